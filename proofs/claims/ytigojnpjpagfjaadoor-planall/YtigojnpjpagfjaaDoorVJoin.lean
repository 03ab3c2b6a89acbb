/-
  Own text: a node joins at the first site that lacks one; what is to be told next.
-/
import Derived.Test.YtigojnpjpagfjaaDoorVSpare
namespace Go.Proofs.YtigojnpjpagfjaaDoor.M
open Go.ChangeShapes Go.WideShapes Go.ChangeAt Go.RowKit

/-- Of sites from k on, what they lack: the first at which a node can join. -/
def joinsR (al : Nat) (hs : List Int) (e : Int) (ms : List Mb) : Nat → List Int → OC
  | _, [] => none
  | k, x :: l => if x = 0 then joinsR al hs e ms (k + 1) l else
    match joinR e ms ⟨spareV al hs ms k, k, false⟩ with
    | .ok (e', ms') => some (⟨2, spareV al hs ms k, k, e⟩, e', ms')
    | .error _ => joinsR al hs e ms (k + 1) l

/-- What each site lacks. -/
def lacksL (ms : List Mb) (vs : List Int) : List Int := [lackV ms (vs.getD 0 0) 0, lackV ms (vs.getD 1 0) 1, lackV ms (vs.getD 2 0) 2]

/-- Who joins, if all have all. -/
def joinA (al : Nat) (hs vs : List Int) (e : Int) (ms : List Mb) : OC :=
  if thN (fun m => !m.f) 0 ms = thN (fun _ => true) 0 ms then joinsR al hs e ms 0 (lacksL ms vs) else none

/-- What is to be told next. -/
def nextR (al : Nat) (hs vs : List Int) (e : Int) (ms : List Mb) : OC :=
  match deadR al e ms ms with
  | some x => some x
  | none => joinA al hs vs e ms

theorem vjoin_err {m : Mb} {e k : Int} {ms : List Mb} (h : joinR e ms m = .error k) : (k == 0) = false := by
  unfold joinR at h
  repeat' split at h
  all_goals cases h
  all_goals rfl

set_option maxRecDepth 20000 in
set_option maxHeartbeats 4000000 in
theorem joins_any (e : Int) (p : Option Addr) (n c : Nat) (ms : List Mb) (al : Nat) (h0 h1 h2 h3 h4 h5 v0 v1 v2 : Int) (hv : (v0 ≤ 9223372036854775807 ∧ v1 ≤ 9223372036854775807) ∧ v2 ≤ 9223372036854775807) (w : World) (hal : al < 18446744073709551616) (hr : RdM w p n c ms) (hn : n ≤ 5864062014805) (ht : Tab w) :
    Calls Tryd.prog 62 #[.agg #[.int .i64 e, .slice p n c, .int .u64 (al : Int), .int .i64 h0, .int .i64 h1, .int .i64 h2, .int .i64 h3, .int .i64 h4, .int .i64 h5, .int .i64 v0, .int .i64 v1, .int .i64 v2]] w fun r w' => ∃ x, r = .returned x ∧ Got w.heap.size w' x (joinA al [h0, h1, h2, h3, h4, h5] [v0, v1, v2] e ms) ∧ Below w.heap.size w w' := by
  have hl := hr.len
  have hb0 : Below w.heap.size w (((w.alloc (.cells #[.int .i64 e, .slice p n c, .int .u64 (al : Int), .int .i64 h0, .int .i64 h1, .int .i64 h2, .int .i64 h3, .int .i64 h4, .int .i64 h5, .int .i64 v0, .int .i64 v1, .int .i64 v2] 72)).alloc (.cells #[.int .i64 0, .int .i64 0, .int .i64 0, .int .i64 0] 37)).alloc (.cells #[.int .i64 0, .slice none 0 0] 28)) := (((Below.refl _ _).alloc (Nat.le_refl _) _).alloc (by simp) _).alloc (by simp; omega) _
  have hS : At 72 (((w.alloc (.cells #[.int .i64 e, .slice p n c, .int .u64 (al : Int), .int .i64 h0, .int .i64 h1, .int .i64 h2, .int .i64 h3, .int .i64 h4, .int .i64 h5, .int .i64 v0, .int .i64 v1, .int .i64 v2] 72)).alloc (.cells #[.int .i64 0, .int .i64 0, .int .i64 0, .int .i64 0] 37)).alloc (.cells #[.int .i64 0, .slice none 0 0] 28)) w.heap.size #[.int .i64 e, .slice p n c, .int .u64 (al : Int), .int .i64 h0, .int .i64 h1, .int .i64 h2, .int .i64 h3, .int .i64 h4, .int .i64 h5, .int .i64 v0, .int .i64 v1, .int .i64 v2] := ((At.new 72 w _).alloc _).alloc _
  have hC : At 37 (((w.alloc (.cells #[.int .i64 e, .slice p n c, .int .u64 (al : Int), .int .i64 h0, .int .i64 h1, .int .i64 h2, .int .i64 h3, .int .i64 h4, .int .i64 h5, .int .i64 v0, .int .i64 v1, .int .i64 v2] 72)).alloc (.cells #[.int .i64 0, .int .i64 0, .int .i64 0, .int .i64 0] 37)).alloc (.cells #[.int .i64 0, .slice none 0 0] 28)) (w.heap.size + 1) #[.int .i64 0, .int .i64 0, .int .i64 0, .int .i64 0] := At.moved (by simp) ((At.new 37 _ _).alloc _)
  have hH : At 28 (((w.alloc (.cells #[.int .i64 e, .slice p n c, .int .u64 (al : Int), .int .i64 h0, .int .i64 h1, .int .i64 h2, .int .i64 h3, .int .i64 h4, .int .i64 h5, .int .i64 v0, .int .i64 v1, .int .i64 v2] 72)).alloc (.cells #[.int .i64 0, .int .i64 0, .int .i64 0, .int .i64 0] 37)).alloc (.cells #[.int .i64 0, .slice none 0 0] 28)) (w.heap.size + 2) #[.int .i64 0, .slice none 0 0] := At.moved (by simp) (At.new 28 _ _)
  generalize hw : w.heap.size = b at *
  obtain ⟨R, HR⟩ : ∃ x, Hid (joinA al [h0, h1, h2, h3, h4, h5] [v0, v1, v2] e ms = x) := ⟨_, rfl⟩
  rw [HR.out]
  have HL : Hid (ms.length = n) := hl
  clear hl
  have hr0 := hr.below (by rw [hw]; exact hb0)
  have ht0 := ht.below (by rw [hw]; exact hb0)
  obtain ⟨a0, a1, a2, ⟨a3, a4, a5, a6, a7, a8⟩, a9, a10, a11⟩ := hS.state
  go_enter Tryd.func62, Tryd.ntmps62
  go_wp2_with fail
  generalize (((w.alloc (.cells #[.int .i64 e, .slice p n c, .int .u64 (al : Int), .int .i64 h0, .int .i64 h1, .int .i64 h2, .int .i64 h3, .int .i64 h4, .int .i64 h5, .int .i64 v0, .int .i64 v1, .int .i64 v2] 72)).alloc (.cells #[.int .i64 0, .int .i64 0, .int .i64 0, .int .i64 0] 37)).alloc (.cells #[.int .i64 0, .slice none 0 0] 28)) = w0 at *
  have hbW := fun d os => below_regrown w0 d os
  have c1 := fun d os => Calls.regrown_of (Nodes_any e p n c ms _ (hr0.below (hbW d os)) hn)
  have c2 := fun d os => Calls.regrown_of (Whole_any e p n c ms _ (hr0.below (hbW d os)) hn)
  have k0 := cell_regrown a0
  have k1 := cell_regrown a1
  by_cases hwn : thN (fun m => !m.f) 0 ms = thN (fun _ => true) 0 ms
  · have HR1 : Hid (joinsR al [h0, h1, h2, h3, h4, h5] e ms 0 (lacksL ms [v0, v1, v2]) = R) := by unfold Hid; rw [← HR.out]; unfold joinA; rw [if_pos hwn]
    rw [hwn] at c2
    generalize thN (fun _ => true) 0 ms = z1 at *
    clear hwn HR hbW a0 a1 a2 a3 a4 a5 a6 a7 a8 a9 a10 a11
    refine wp_region_quiet_below (by kernel_rfl) (by kernel_rfl) ?_
    repeat (quiet_step (first | (go_at_call 31; exact c1 _ _) | (go_at_call 33; exact c2 _ _)))
    refine wpQuiet_nil ?_
    intro _ hw'
    obtain ⟨⟨dq, osq⟩, hw''⟩ := hw'
    subst hw''
    have hbq := below_regrown w0 dq osq
    clear c1 c2 k0 k1
    generalize Sort.grow (redrawn w0 dq) osq = w1 at *
    have hS1 := hS.below hbq
    have hC1 := hC.below hbq
    have hH1 := hH.below hbq
    have hr1 := hr0.below hbq
    have ht1 := ht0.below hbq
    have hb1 := hb0.trans (hbq.mono (by have := hb0.size; omega))
    clear hS hC hH hr0 ht0 hb0 hbq
    obtain ⟨a0, a1, a2, ⟨a3, a4, a5, a6, a7, a8⟩, a9, a10, a11⟩ := hS1.state
    have hLk := pLacks_any e p n c ms v0 v1 v2 hv w1 hr1 hn
    have HR2 : Hid (joinsR al [h0, h1, h2, h3, h4, h5] e ms 0 [lackV ms v0 0, lackV ms v1 1, lackV ms v2 2] = R) := HR1
    generalize lackV ms v0 0 = l0 at *
    generalize lackV ms v1 1 = l1 at *
    generalize lackV ms v2 2 = l2 at *
    have hiL := fun k hk W => idxW l0 l1 l2 k hk W
    clear HR1
    go_wp2_with fail
    refine hLk.mono ?_
    rintro r w2 ⟨rfl, hb2⟩
    have hS2 := hS1.below hb2
    have hC2 := hC1.below hb2
    have hH2 := hH1.below hb2
    have hB2 := hb1.trans (hb2.mono (by have := hb1.size; omega))
    clear hS1 hC1 hH1 hr1 ht1 hb1 hb2 hLk a0 a1 a2 a3 a4 a5 a6 a7 a8 a9 a10 a11
    obtain ⟨ls, LS⟩ : ∃ l : List Int, Hid (l = [l0, l1, l2]) := ⟨_, rfl⟩
    have hl3 : Hid (ls.length = 3) := by unfold Hid; rw [LS.out]; rfl
    rw [← LS.out] at hiL HR2
    clear LS
    obtain ⟨hs, HS⟩ : ∃ l : List Int, Hid (l = [h0, h1, h2, h3, h4, h5]) := ⟨_, rfl⟩
    rw [← HS.out] at HR2
    go_wp2_with fail
    go_loopw [24] (fun i wr => ∃ k : Nat, k ≤ 3 ∧ i = .int .i64 k ∧ Hid (joinsR al hs e ms k (ls.drop k) = R) ∧ At 72 wr b #[.int .i64 e, .slice p n c, .int .u64 (al : Int), .int .i64 h0, .int .i64 h1, .int .i64 h2, .int .i64 h3, .int .i64 h4, .int .i64 h5, .int .i64 v0, .int .i64 v1, .int .i64 v2] ∧ At 37 wr (b + 1) #[.int .i64 0, .int .i64 0, .int .i64 0, .int .i64 0] ∧ At 28 wr (b + 2) #[.int .i64 0, .slice none 0 0] ∧ Below b w wr) (fun i _ => 3 - (intOf i).toNat)
    case atStart => exact ⟨0, Nat.zero_le _, rfl, HR2, hS2, hC2, hH2, hB2⟩
    case round =>
      clear HR2 hS2 hC2 hH2 hB2
      obtain ⟨k, hk, rfl, HR, hS, hC, hH, hb⟩ := hrel
      have hsz : b ≤ wr.heap.size := by have := hb.size; omega
      by_cases h : k < 3
      · have hix := hiL k h
        have hd := drop_i (l := ls) (k := k) (by rw [hl3.out]; exact h)
        have hR := HR.out
        rw [hd, joinsR] at hR
        clear hd HR hiL
        generalize ls.getD k 0 = x at *
        obtain ⟨a0, a1, a2, ⟨a3, a4, a5, a6, a7, a8⟩, a9, a10, a11⟩ := hS.state
        by_cases hx : x = 0
        · have HR : Hid (joinsR al hs e ms (k + 1) (ls.drop (k + 1)) = R) := by unfold Hid; rw [← hR, if_pos hx]
          subst hx
          clear hR
          go_wp2_with fail
          go_roundw
          case rel => exact ⟨k + 1, by omega, by go_num, HR, hS, hC, hH, hb⟩
          case measure => simp [intOf]; omega
        · rw [if_neg hx] at hR
          have hxz : (x == 0) = false := by simp [hx]
          have hrr := hr.below (by rw [hw]; exact hb)
          have htt := ht.below (by rw [hw]; exact hb)
          have hSp := spare_any e p n c ms al h0 h1 h2 h3 h4 h5 v0 v1 v2 (k : Int) wr hal hrr hn htt
          rw [← HS.out] at hSp
          have hJ := fun W hx => Join_any e p n c ms ⟨spareV al hs ms (k : Int), (k : Int), false⟩ W hx hn
          generalize hsp : spareV al hs ms (k : Int) = sp at *
          dsimp only at hJ
          clear hsp hx
          go_wp2_with fail
          refine hSp.mono ?_
          rintro r w3 ⟨rfl, hb3⟩
          have hS3 := hS.below hb3
          have hC3 := hC.below hb3
          have hH3 := hH.below hb3
          have hr3 := hrr.below hb3
          have hB3 := hb.trans (hb3.mono hsz)
          clear hS hC hH hb hSp hrr htt hb3 a0 a1 a2 a3 a4 a5 a6 a7 a8 a9 a10 a11
          obtain ⟨a0, a1, a2, ⟨a3, a4, a5, a6, a7, a8⟩, a9, a10, a11⟩ := hS3.state
          cases hcu : joinR e ms ⟨sp, (k : Int), false⟩ with
          | error kk =>
            have HR : Hid (joinsR al hs e ms (k + 1) (ls.drop (k + 1)) = R) := by unfold Hid; rw [← hR, hcu]
            have hk0 := vjoin_err hcu
            rw [hcu] at hJ
            clear hR hcu
            go_wp2_with fail
            refine (hJ _ hr3).mono ?_
            rintro r w4 ⟨x4, rfl, ht4, hb4⟩
            obtain rfl := ht4
            have hS4 := hS3.below hb4
            have hC4 := hC3.below hb4
            have hH4 := hH3.below hb4
            have hB4 := hB3.trans (hb4.mono (by have := hB3.size; omega))
            clear hS3 hC3 hH3 hB3 hJ hr3 a0 a1 a2 a3 a4 a5 a6 a7 a8 a9 a10 a11
            have hba := below_alloc w4 (.cells #[.int .i64 0, .slice none 0 0] 28)
            go_wp2_with fail
            go_roundw
            case rel => exact ⟨k + 1, by omega, by go_num, HR, hS4.below hba, hC4.below hba, hH4.below hba, hB4.trans (hba.mono (by have := hB4.size; omega))⟩
            case measure => simp [intOf]; omega
          | ok em =>
            obtain ⟨e2, ms2⟩ := em
            have HR : Hid (R = some (⟨2, sp, (k : Int), e⟩, e2, ms2)) := by unfold Hid; rw [← hR, hcu]
            rw [hcu] at hJ
            clear hR hcu
            go_wp2_with fail
            refine (hJ _ hr3).mono ?_
            rintro r w4 ⟨x4, rfl, ht4, hb4⟩
            obtain ⟨q4, c4, rfl, hq4, hr4⟩ := ht4
            have hX : b + 2 < w3.heap.size := hH3.lt
            have hS4 := hS3.below hb4
            have hC4 := hC3.below hb4
            have hH4 := hH3.below hb4
            have hB4 := hB3.trans (hb4.mono (by have := hB3.size; omega))
            clear hS3 hC3 hH3 hB3 hJ hr3 a0 a1 a2 a3 a4 a5 a6 a7 a8 a9 a10 a11
            have hba := below_alloc w4 (.cells #[.int .i64 e2, .slice q4 ms2.length c4] 28)
            obtain ⟨a0, a1, a2, ⟨a3, a4, a5, a6, a7, a8⟩, a9, a10, a11⟩ := (hS4.below hba).state
            have hC5 := hC4.below hba
            have hH5 := hH4.below hba
            obtain ⟨c0, c1, c2, c3'⟩ := hC5.four
            obtain ⟨d0, d1⟩ := hH5.two
            obtain ⟨f0, f1, f2, f3⟩ := hC5.free4
            obtain ⟨j0, j1, j2, j3⟩ := hH5.free4
            have hB5 := hB4.trans (hba.mono (by have := hB4.size; omega))
            have hr5 := hr4.below hba
            have hN := At.new 28 w4 #[.int .i64 e2, .slice q4 ms2.length c4]
            obtain ⟨n0, n1⟩ := hN.two
            have hlt : b + 2 < w4.heap.size := hH4.lt
            have ne1 : ¬ b + 1 = w4.heap.size := by omega
            have ne2 : ¬ b + 2 = w4.heap.size := by omega
            have ne3 : ¬ w4.heap.size = b + 1 := by omega
            have ne4 : ¬ w4.heap.size = b + 2 := by omega
            go_wp2_with fail
            go_region
            all_goals go_wp2_with fail
            have hqb : ∀ a, q4 = some a → 0 < ms2.length → b + 2 < a.block := fun a ha h0 => Nat.lt_of_lt_of_le hX (hq4 a ha h0)
            exact bodyPost_ret (results_three (p := 2) (q := 3) (u := 4) rfl _ _ (b + 1) (b + 2) _ _ _ _ _ _ rfl rfl (((hC5.put4 _ _ _ _).other2 (b + 2) (by omega) _ _).drew) (((hH5.other4 (b + 1) (by omega) _ _ _ _).put2 _ _).drew)) rfl ⟨_, rfl, by
              rw [HR.out]
              exact ⟨q4, c4, rfl, fun a ha h0 => by have := hqb a ha h0; omega, (((hr5.put4 _ _ _ _ (fun a ha h0 => by have := hqb a ha h0; omega)).put _ _ (fun a ha h0 => by have := hqb a ha h0; omega))).drew⟩, Below.drewR (Below.put2 (Below.put4 hB5 (by omega) _ _ _ _) (by omega) _ _)⟩
      · have HR2 : Hid (R = none) := by unfold Hid; rw [← HR.out, List.drop_of_length_le (by rw [hl3.out]; omega)]; rfl
        obtain ⟨c0, c1, c2, c3'⟩ := hC.four
        obtain ⟨d0, d1⟩ := hH.two
        obtain ⟨f0, f1, f2, f3⟩ := hC.free4
        obtain ⟨j0, j1, j2, j3⟩ := hH.free4
        clear HR hr HL hiL
        go_wp2_with fail
        exact bodyPost_ret (results_three (p := 2) (q := 3) (u := 4) rfl _ _ (b + 1) (b + 2) _ _ _ _ _ _ rfl rfl ((hC.put4 _ _ _ _).other2 (b + 2) (by omega) _ _) ((hH.other4 (b + 1) (by omega) _ _ _ _).put2 _ _)) rfl ⟨_, rfl, by rw [HR2.out]; rfl, Below.put2 (Below.put4 hb (by omega) _ _ _ _) (by omega) _ _⟩
  · have HR1 : Hid (R = none) := by unfold Hid; rw [← HR.out]; unfold joinA; rw [if_neg hwn]
    have hne : (((thN (fun m => !m.f) 0 ms : Nat) : Int) != ((thN (fun _ => true) 0 ms : Nat) : Int)) = true := by simp; omega
    generalize thN (fun _ => true) 0 ms = z1 at *
    generalize thN (fun m => !m.f) 0 ms = z2 at *
    clear hwn HR hbW a0 a1 a2 a3 a4 a5 a6 a7 a8 a9 a10 a11
    refine wp_region_quiet_below (by kernel_rfl) (by kernel_rfl) ?_
    repeat (quiet_step (first | (go_at_call 31; exact c1 _ _) | (go_at_call 33; exact c2 _ _)))
    refine wpQuiet_nil ?_
    intro _ hw'
    obtain ⟨⟨dq, osq⟩, hw''⟩ := hw'
    subst hw''
    have hbq := below_regrown w0 dq osq
    clear c1 c2 k0 k1
    generalize Sort.grow (redrawn w0 dq) osq = w1 at *
    have hC1 := hC.below hbq
    have hH1 := hH.below hbq
    have hb1 := hb0.trans (hbq.mono (by have := hb0.size; omega))
    obtain ⟨c0, c1, c2, c3'⟩ := hC1.four
    obtain ⟨d0, d1⟩ := hH1.two
    obtain ⟨f0, f1, f2, f3⟩ := hC1.free4
    obtain ⟨j0, j1, j2, j3⟩ := hH1.free4
    clear hS hC hH hr0 ht0 hb0 hbq hr ht HL
    go_wp2_with fail
    exact bodyPost_ret (results_three (p := 2) (q := 3) (u := 4) rfl _ _ (b + 1) (b + 2) _ _ _ _ _ _ rfl rfl ((hC1.put4 _ _ _ _).other2 (b + 2) (by omega) _ _) ((hH1.other4 (b + 1) (by omega) _ _ _ _).put2 _ _)) rfl ⟨_, rfl, by rw [HR1.out]; rfl, Below.put2 (Below.put4 hb1 (by omega) _ _ _ _) (by omega) _ _⟩

end Go.Proofs.YtigojnpjpagfjaaDoor.M
