/-
  Own text: the contract of the reference's Ready.
-/
import Derived.Test.YtnhdfojbffaifaaYRefA
namespace Go.Proofs.Ytnhdfojbffaifaa.M
open Go.ChangeShapes Go.WideShapes Go.ChangeAt Go.RowKit

theorem set_take_snoc (ms : List Mb) (i k : Nat) (h : k < ms.length) : ((ms.set i { ms.getD i .z0 with f := false }).take (k + 1)) = (ms.set i { ms.getD i .z0 with f := false }).take k ++ [⟨(ms.getD k .z0).n, (ms.getD k .z0).s, (ms.getD k .z0).f && !(decide (k = i))⟩] := by
  rw [take_snoc_mb (by simpa using h)]
  congr 2
  rw [List.getD_eq_getElem?_getD, List.getElem?_set]
  by_cases hk : i = k
  · subst hk
    simp [h]
  · have hk' : ¬ k = i := fun h => hk h.symm
    rw [if_neg hk, decide_eq_false hk', ← List.getD_eq_getElem?_getD]
    simp

set_option maxRecDepth 20000 in
set_option maxHeartbeats 2000000 in
theorem rReady_any (e : Int) (p : Option Addr) (n c : Nat) (ms : List Mb) (node : Int) (w : World) (hr : RdM w p n c ms) (hn : n ≤ 5864062014805) :
    Calls Try.prog 50 #[.agg #[.int .i64 e, .slice p n c], .int .i64 node] w fun r w' => ∃ v, r = .returned v ∧ Told w.heap.size w' v (readyR e ms node) ∧ Below w.heap.size w w' := by
  have hF := Gr.new1 w e p n c
  have hb0 : Below w.heap.size w ((w.alloc (.cells #[.int .i64 e, .slice p n c] 24)).alloc (.cells #[.int .i64 0, .slice none 0 0] 24)) := ((Below.refl _ _).alloc (Nat.le_refl _) _).alloc (by simp) _
  have hl := hr.len
  have hr0 := hr.below hb0
  have hC := rCheck_any e p n c ms _ hr0 hn
  unfold chkV at hC
  obtain ⟨i0, hi0, hz0, hz1, hz2⟩ := info_parts infoM
  generalize hw : w.heap.size = b at *
  go_enter Try.func50, Try.ntmps50
  go_wp2_with fail
  generalize ((w.alloc (.cells #[.int .i64 e, .slice p n c] 24)).alloc (.cells #[.int .i64 0, .slice none 0 0] 24)) = w0 at *
  refine hC.mono ?_
  rintro r w1 ⟨rfl, hb1⟩
  have hlt0 := hF.lt
  have hF1 := hF.below hb1
  have hB1 := hb0.trans (hb1.mono (by omega))
  have hr1 := hr0.below hb1
  clear hC
  cases hk : chk e ms with
  | false =>
    have HR : Hid (readyR e ms node = .error 80) := by unfold Hid readyR; rw [hk]; rfl
    have e0 := hF1.put0 (.int .i64 0) (.slice none 0 0)
    have e1 := hF1.put1 (.int .i64 0) (.slice none 0 0)
    have hbb := Gr.putB hB1 (Nat.le_succ b) (.int .i64 0) (.slice none 0 0)
    obtain ⟨a0, a1, b0, b1, f0, f1, lt, br⟩ := hF1
    clear hF hr hr0 hb0 hb1 hk hr1
    simp only [Bool.false_eq_true, if_false]
    go_wp2_with fail
    exact bodyPost_ret (results_chain (p := 4) (u := 5) rfl _ _ (b + 1) _ _ rfl e0 e1) rfl ⟨_, rfl, by rw [HR.out]; rfl, hbb⟩
  | true =>
    obtain ⟨he1, he2, hn0, hn6⟩ := chk_parts hk
    have hP := rPlace_any e p n c ms node w1 hr1 hn
    have hbd := plc_bounds e ms node
    have HR : Hid (readyR e ms node = if plc e ms node = -1 ∨ (ms.getD (plc e ms node).toNat .z0).f = false then .error 81 else .ok (e, ms.set (plc e ms node).toNat { ms.getD (plc e ms node).toNat .z0 with f := false })) := by unfold Hid readyR; rw [hk]; rfl
    generalize plc e ms node = z at *
    have hk1 := hF1
    obtain ⟨a0, a1, b0, b1, f0, f1, lt, br⟩ := hF1
    clear hF hr hr0 hb0 hb1 hk
    simp only [if_true]
    go_wp2_with fail
    refine hP.mono ?_
    rintro r w2 ⟨rfl, hb2⟩
    have hk2 := hk1.below hb2
    have hB2 := hB1.trans (hb2.mono (by omega))
    have hr2 := hr1.below hb2
    clear a0 a1 b0 b1 f0 f1 hP hr1 hk1
    have hk2' := hk2
    obtain ⟨a0, a1, b0, b1, f0, f1, lt2, br2⟩ := hk2'
    by_cases hz : z < 0
    · have HR2 : Hid (readyR e ms node = .error 81) := by unfold Hid; rw [HR.out, if_pos (Or.inl (by omega))]
      have e0 := hk2.put0 (.int .i64 0) (.slice none 0 0)
      have e1 := hk2.put1 (.int .i64 0) (.slice none 0 0)
      have hbb := Gr.putB hB2 (Nat.le_succ b) (.int .i64 0) (.slice none 0 0)
      clear HR hbd
      go_wp2_with fail
      exact bodyPost_ret (results_chain (p := 4) (u := 5) rfl _ _ (b + 1) _ _ rfl e0 e1) rfl ⟨_, rfl, by rw [HR2.out]; rfl, hbb⟩
    · have hzd : decide (z < 0) = false := decide_eq_false hz
      obtain ⟨i, rfl⟩ : ∃ i : Nat, z = (i : Int) := ⟨z.toNat, by omega⟩
      have hin : i < n := by omega
      rw [Int.toNat_natCast] at HR
      obtain ⟨gq, oq, rfl, cq⟩ := hr2.cells (by omega)
      have hf := (cq i hin).2.2
      cases hmf : (ms.getD i .z0).f with
      | false =>
        rw [hmf] at hf
        have HR2 : Hid (readyR e ms node = .error 81) := by unfold Hid; rw [HR.out, if_pos (Or.inr hmf)]
        have e0 := hk2.put0 (.int .i64 0) (.slice none 0 0)
        have e1 := hk2.put1 (.int .i64 0) (.slice none 0 0)
        have hbb := Gr.putB hB2 (Nat.le_succ b) (.int .i64 0) (.slice none 0 0)
        clear HR hbd cq
        go_wp2_with fail
        exact bodyPost_ret (results_chain (p := 4) (u := 5) rfl _ _ (b + 1) _ _ rfl e0 e1) rfl ⟨_, rfl, by rw [HR2.out]; rfl, hbb⟩
      | true =>
        rw [hmf] at hf
        have HR2 : Hid (readyR e ms node = .ok (e, ms.set i { ms.getD i .z0 with f := false })) := by unfold Hid; rw [HR.out, if_neg (by rw [hmf]; simp)]
        have HT : ∀ k, k < n → Hid (((ms.set i { ms.getD i .z0 with f := false }).take (k + 1)) = (ms.set i { ms.getD i .z0 with f := false }).take k ++ [⟨(ms.getD k .z0).n, (ms.getD k .z0).s, (ms.getD k .z0).f && !(decide (k = i))⟩]) := fun k hk => set_take_snoc ms i k (by omega)
        have hSl : (ms.set i { ms.getD i .z0 with f := false }).length = n := by rw [List.length_set]; exact hl
        generalize ms.set i { ms.getD i .z0 with f := false } = S at *
        clear HR hbd
        have hb3 : Below w2.heap.size w2 (w2.alloc (.cells #[.int .i64 e, .slice none 0 0] 24)) := (Below.refl _ _).alloc (Nat.le_refl _) _
        have hO := Ob.new w2 e
        have hk3 := hk2.below hb3
        have d0 := hk3.a1
        clear cq
        go_wp2_with fail
        clear hf
        go_loopw [35] (fun j wr => ∃ k : Nat, ∃ v, k ≤ n ∧ j = .int .i64 k ∧ Ob wr w2.heap.size e v (S.take k) ∧ Below w2.heap.size w2 wr) (fun j _ => n - (intOf j).toNat)
        case atStart => exact ⟨0, .slice none 0 0, Nat.zero_le _, rfl, by rw [List.take_zero]; exact hO, hb3⟩
        case round =>
          clear hO hk3 hb3
          obtain ⟨k, v, hkn, rfl, hO, hb⟩ := hrel
          by_cases h : k < n
          · obtain ⟨g1, o1, hpe, c1⟩ := (hr2.below hb).cells (by omega)
            cases hpe
            obtain ⟨x1, x2, x3⟩ := c1 k h
            have hk1' : (k : Int) < (n : Int) := by omega
            have HT := HT k h
            have hML : (S.take k).length ≤ n := by rw [List.length_take]; omega
            clear c1
            generalize ms.getD k .z0 = f at *
            obtain ⟨fn, fs, ff⟩ := f
            dsimp only at x1 x2 x3 HT
            generalize S.take k = M at *
            have hxs := hb.size
            have hxl := hO.lt
            cases ff with
            | false =>
              have HT2 : Hid (S.take (k + 1) = M ++ [⟨fn, fs, false⟩]) := by unfold Hid; rw [HT.out]; rfl
              clear HT 
              have hba : Below wr.heap.size wr ((wr.alloc (.cells #[.int .i64 fn, .int .i64 fs, .bool false] 42)).alloc (.cells #[.int .i64 fn, .int .i64 fs, .bool false] 42)) := ((Below.refl _ _).alloc (Nat.le_refl _) _).alloc (by simp) _
              have hO2 := hO.below hba
              have u1 := hO.c1
              have u2 : (wr.alloc (.cells #[.int .i64 fn, .int .i64 fs, .bool false] 42)).cell? ⟨w2.heap.size, 1, none⟩ = some v := (((Below.refl wr.heap.size wr).alloc (Nat.le_refl _) (.cells #[.int .i64 fn, .int .i64 fs, .bool false] 42)).cell (p := ⟨w2.heap.size, 1, none⟩) hxl).trans u1
              have hsz : w2.heap.size + 1 ≤ ((wr.alloc (.cells #[.int .i64 fn, .int .i64 fs, .bool false] 42)).alloc (.cells #[.int .i64 fn, .int .i64 fs, .bool false] 42)).heap.size := by simp; omega
              go_wp2_with (at_builtin; refine wpList_appOwM _ rfl (.tmp 49) (.tmp 51) 22 rfl i0 (.agg #[.int .i64 0, .int .i64 0, .bool false]) Try.underlying22 hi0 hz0 hz1 hz2 rfl (w2.heap.size + 1) v M rfl hO2.ow (wr.heap.size + 1) 1 ⟨fn, fs, false⟩ rfl (by simp) (by simp) (by simp) (by omega) hsz ?_)
              intro v' w' h1 h2
              obtain ⟨q', c', rfl, _, _⟩ := h1.rd
              simp only [List.length_append, List.length_singleton] at h1
              have s1 := (h2.cell (p := ⟨w2.heap.size, 1, none⟩) (Nat.lt_succ_self _)).trans hO2.c1
              have s2 := (h2.frozen (p := ⟨w2.heap.size, 1, none⟩) (Nat.lt_succ_self _)).trans hO2.fz
              go_wp2_with fail
              go_roundw
              case rel => exact ⟨k + 1, _, by omega, by go_num, by rw [HT2.out]; exact hO2.app h2 h1, ((hb.trans (hba.mono hb.size)).trans (h2.mono (Nat.le_succ _))).setCell (Nat.le_refl _) _⟩
              case measure => simp [intOf]; omega
            | true =>
              by_cases hki : k = i
              · have hni : ((k : Int) != (i : Int)) = false := by simp [hki]
                have HT2 : Hid (S.take (k + 1) = M ++ [⟨fn, fs, false⟩]) := by unfold Hid; rw [HT.out]; rw [decide_eq_true hki]; rfl
                clear HT hki
                have hba : Below wr.heap.size wr ((wr.alloc (.cells #[.int .i64 fn, .int .i64 fs, .bool false] 42)).alloc (.cells #[.int .i64 fn, .int .i64 fs, .bool false] 42)) := ((Below.refl _ _).alloc (Nat.le_refl _) _).alloc (by simp) _
                have hO2 := hO.below hba
                have u1 := hO.c1
                have u2 : (wr.alloc (.cells #[.int .i64 fn, .int .i64 fs, .bool false] 42)).cell? ⟨w2.heap.size, 1, none⟩ = some v := (((Below.refl wr.heap.size wr).alloc (Nat.le_refl _) (.cells #[.int .i64 fn, .int .i64 fs, .bool false] 42)).cell (p := ⟨w2.heap.size, 1, none⟩) hxl).trans u1
                have hsz : w2.heap.size + 1 ≤ ((wr.alloc (.cells #[.int .i64 fn, .int .i64 fs, .bool false] 42)).alloc (.cells #[.int .i64 fn, .int .i64 fs, .bool false] 42)).heap.size := by simp; omega
                go_wp2_with (at_builtin; refine wpList_appOwM _ rfl (.tmp 49) (.tmp 51) 22 rfl i0 (.agg #[.int .i64 0, .int .i64 0, .bool false]) Try.underlying22 hi0 hz0 hz1 hz2 rfl (w2.heap.size + 1) v M rfl hO2.ow (wr.heap.size + 1) 1 ⟨fn, fs, false⟩ rfl (by simp) (by simp) (by simp) (by omega) hsz ?_)
                intro v' w' h1 h2
                obtain ⟨q', c', rfl, _, _⟩ := h1.rd
                simp only [List.length_append, List.length_singleton] at h1
                have s1 := (h2.cell (p := ⟨w2.heap.size, 1, none⟩) (Nat.lt_succ_self _)).trans hO2.c1
                have s2 := (h2.frozen (p := ⟨w2.heap.size, 1, none⟩) (Nat.lt_succ_self _)).trans hO2.fz
                go_wp2_with fail
                go_roundw
                case rel => exact ⟨k + 1, _, by omega, by go_num, by rw [HT2.out]; exact hO2.app h2 h1, ((hb.trans (hba.mono hb.size)).trans (h2.mono (Nat.le_succ _))).setCell (Nat.le_refl _) _⟩
                case measure => simp [intOf]; omega
              · have hni : ((k : Int) != (i : Int)) = true := by simp; omega
                have HT2 : Hid (S.take (k + 1) = M ++ [⟨fn, fs, true⟩]) := by unfold Hid; rw [HT.out]; rw [decide_eq_false hki]; rfl
                clear HT hki
                have hba : Below wr.heap.size wr ((wr.alloc (.cells #[.int .i64 fn, .int .i64 fs, .bool true] 42)).alloc (.cells #[.int .i64 fn, .int .i64 fs, .bool true] 42)) := ((Below.refl _ _).alloc (Nat.le_refl _) _).alloc (by simp) _
                have hO2 := hO.below hba
                have u1 := hO.c1
                have u2 : (wr.alloc (.cells #[.int .i64 fn, .int .i64 fs, .bool true] 42)).cell? ⟨w2.heap.size, 1, none⟩ = some v := (((Below.refl wr.heap.size wr).alloc (Nat.le_refl _) (.cells #[.int .i64 fn, .int .i64 fs, .bool true] 42)).cell (p := ⟨w2.heap.size, 1, none⟩) hxl).trans u1
                have hsz : w2.heap.size + 1 ≤ ((wr.alloc (.cells #[.int .i64 fn, .int .i64 fs, .bool true] 42)).alloc (.cells #[.int .i64 fn, .int .i64 fs, .bool true] 42)).heap.size := by simp; omega
                go_wp2_with (at_builtin; refine wpList_appOwM _ rfl (.tmp 49) (.tmp 51) 22 rfl i0 (.agg #[.int .i64 0, .int .i64 0, .bool false]) Try.underlying22 hi0 hz0 hz1 hz2 rfl (w2.heap.size + 1) v M rfl hO2.ow (wr.heap.size + 1) 1 ⟨fn, fs, true⟩ rfl (by simp) (by simp) (by simp) (by omega) hsz ?_)
                intro v' w' h1 h2
                obtain ⟨q', c', rfl, _, _⟩ := h1.rd
                simp only [List.length_append, List.length_singleton] at h1
                have s1 := (h2.cell (p := ⟨w2.heap.size, 1, none⟩) (Nat.lt_succ_self _)).trans hO2.c1
                have s2 := (h2.frozen (p := ⟨w2.heap.size, 1, none⟩) (Nat.lt_succ_self _)).trans hO2.fz
                go_wp2_with fail
                go_roundw
                case rel => exact ⟨k + 1, _, by omega, by go_num, by rw [HT2.out]; exact hO2.app h2 h1, ((hb.trans (hba.mono hb.size)).trans (h2.mono (Nat.le_succ _))).setCell (Nat.le_refl _) _⟩
                case measure => simp [intOf]; omega
          · obtain rfl : k = n := by omega
            have hki : ¬ (k : Int) < (k : Int) := by omega
            rw [List.take_of_length_le (by omega)] at hO
            have hBr := hB2.trans (hb.mono (by omega))
            have hkr := hk2.below hb
            obtain ⟨q0, c0, rfl, hq0, hr5⟩ := hO.ow.rd
            obtain ⟨y0, y1, yf, _⟩ := hO
            clear a0 a1 b0 b1 f0 f1 hk2 hr2 hb HT
            have hkr' := hkr
            obtain ⟨a0, a1, b0, b1, f0, f1, lt5, br5⟩ := hkr'
            go_wp2_with fail
            exact bodyPost_ret (results_chain (p := 4) (u := 5) rfl _ _ (b + 1) _ _ rfl (hkr.put0 _ _) (hkr.put1 _ _)) rfl ⟨_, rfl, by
              rw [HR2.out]
              refine ⟨q0, c0, by rw [hSl]; rfl, (fun a ha _ => by have := hq0 a ha; omega), ?_⟩
              rw [hSl] at hr5 ⊢
              exact hr5.put _ _ (fun a ha _ => by have := hq0 a ha; omega), Gr.putB hBr (Nat.le_succ b) _ _⟩

end Go.Proofs.Ytnhdfojbffaifaa.M
