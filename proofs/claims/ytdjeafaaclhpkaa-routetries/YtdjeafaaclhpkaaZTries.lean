/-
  Own text: contracts of route's Tries and of the reference's.
-/
import Derived.Test.YtdjeafaaclhpkaaZBoth
import Derived.Test.YtdjeafaaclhpkaaYDel
namespace Go.Proofs.Ytdjeafaaclhpkaa.M
open Go.ChangeShapes Go.WideShapes Go.ChangeAt Go.RowKit

/-- So many numbers of a row, from the first on again behind the last one. -/
def cyc (L : List Int) (T : Nat) : List Int := (List.range T).map fun i => L.getD (i % L.length) 0

theorem cyc_len (L : List Int) (T : Nat) : (cyc L T).length = T := by simp [cyc]

theorem cyc_succ (L : List Int) (T : Nat) : cyc L (T + 1) = cyc L T ++ [L.getD (T % L.length) 0] := by
  unfold cyc
  rw [List.range_succ, List.map_append]
  rfl

/-- Whom one asks. -/
def asked (xs : List Int) (i0 : Nat) (wr : Bool) (ms : List Mb) : List Mb := if wr then ms.filter (fun m => !m.f) else srt (nrC xs i0) ms

theorem asked_pos {e : Int} {ms : List Mb} (hk : chk e ms = true) (xs : List Int) (i0 : Nat) (wr : Bool) : 0 < (asked xs i0 wr ms).length ∧ (asked xs i0 wr ms).length ≤ 6 := by
  have h6 := chk_six hk
  have hp := chk_pos hk
  unfold asked
  cases wr with
  | false =>
    simp only [Bool.false_eq_true, if_false]
    rw [srt_len]
    exact ⟨hp, h6⟩
  | true =>
    simp only [if_true]
    have hh := ((chk_iff e ms).1 hk).2.2.1
    refine ⟨?_, Nat.le_trans (List.length_filter_le _ _) h6⟩
    match ms, hh with
    | m :: l, hh =>
      have h1 : (!m.f) = true := hh
      rw [List.filter_cons_of_pos (by simpa using h1)]
      simp

set_option maxRecDepth 20000 in
theorem tries1_any (m : Mb) (w : World) : Calls Try.prog 40 #[.agg #[.int .i64 m.n, .int .i64 m.s, .bool m.f]] w fun e w' => e = .returned (.bool m.f) ∧ Below w.heap.size w w' := by
  obtain ⟨n, s, f⟩ := m
  dsimp only
  go_enter Try.func40, Try.ntmps40
  go_wp2
  go_ret
  exact ⟨rfl, (Below.refl _ _).alloc (Nat.le_refl _) _⟩

theorem cfTr : Cf 40 := fun args w => cf_of Try.func40 (by kernel_rfl) (by kernel_rfl) args w

theorem asksTr (B : Nat) (w : World) : AsksB 40 #[] B w (fun m => m.f) := fun W m _ => tries1_any m W

set_option maxRecDepth 20000 in
set_option maxHeartbeats 2000000 in
theorem Tries_ok (e : Int) (p : Option Addr) (n c : Nat) (ms : List Mb) (a0 a1 a2 a3 a4 a5 a6 a7 a8 : Int) (i0 : Nat) (hi0 : i0 < 3) (hk : chk e ms = true) (hw : okW [a0, a1, a2, a3, a4, a5, a6, a7, a8] = true) (wri : Bool) (T : Nat) (hT : T ≤ 24) (w : World) (hr : RdM w p n c ms) (hn : n ≤ 5864062014805) :
    Calls Try.prog 23 #[.agg #[.int .i64 e, .slice p n c], .agg #[.int .i64 a0, .int .i64 a1, .int .i64 a2, .int .i64 a3, .int .i64 a4, .int .i64 a5, .int .i64 a6, .int .i64 a7, .int .i64 a8], .int .i64 (i0 : Int), .bool wri, .int .i64 (T : Int)] w fun r w' => ∃ q d, r = .returned (.tuple #[.slice q T d, .int .i64 0]) ∧ Rd .i64 w' q T d (cyc ((asked [a0, a1, a2, a3, a4, a5, a6, a7, a8] i0 wri ms).map (·.n)) T) ∧ Below w.heap.size w w' := by
  have hb0 : Below w.heap.size w ((w.alloc (.cells #[.int .i64 e, .slice p n c] 33)).alloc (.cells #[.int .i64 a0, .int .i64 a1, .int .i64 a2, .int .i64 a3, .int .i64 a4, .int .i64 a5, .int .i64 a6, .int .i64 a7, .int .i64 a8] 24)) := ((Below.refl _ _).alloc (Nat.le_refl _) _).alloc (by simp) _
  have hA : ArrI 24 .i64 ((w.alloc (.cells #[.int .i64 e, .slice p n c] 33)).alloc (.cells #[.int .i64 a0, .int .i64 a1, .int .i64 a2, .int .i64 a3, .int .i64 a4, .int .i64 a5, .int .i64 a6, .int .i64 a7, .int .i64 a8] 24)) (w.heap.size + 1) [a0, a1, a2, a3, a4, a5, a6, a7, a8] := new_at (by simp) (nine_cells (t := 24) (w.alloc (.cells #[.int .i64 e, .slice p n c] 33)) a0 a1 a2 a3 a4 a5 a6 a7 a8)
  have hK : At 33 ((w.alloc (.cells #[.int .i64 e, .slice p n c] 33)).alloc (.cells #[.int .i64 a0, .int .i64 a1, .int .i64 a2, .int .i64 a3, .int .i64 a4, .int .i64 a5, .int .i64 a6, .int .i64 a7, .int .i64 a8] 24)) w.heap.size #[.int .i64 e, .slice p n c] := (At.new 33 w #[.int .i64 e, .slice p n c]).alloc _
  have hS : isSt (i0 : Int) = true := by unfold isSt; simp; omega
  have hO := askerOf_ok e p n c ms a0 a1 a2 a3 a4 a5 a6 a7 a8 (i0 : Int) _ (hr.below hb0) hn hk hw hS
  have h6 := chk_six hk
  have hp := chk_pos hk
  have hl := hr.len
  have hss : ∀ m ∈ ms, atSite m := fun m hm => by
    obtain ⟨j, hj, e⟩ := chk_site hk hm
    unfold atSite
    omega
  obtain ⟨hap, ha6⟩ := asked_pos hk [a0, a1, a2, a3, a4, a5, a6, a7, a8] i0 wri
  obtain ⟨i1, hi1, hz0, hz1, hz2⟩ := info_parts infoI
  have hT1 : ¬ (24 : Int) < (T : Int) := by omega
  clear hS hk hw
  cases wri with
  | false =>
    have HAS : Hid (asked [a0, a1, a2, a3, a4, a5, a6, a7, a8] i0 false ms = srt (nrC [a0, a1, a2, a3, a4, a5, a6, a7, a8] i0) ms) := rfl
    have HLn : Hid ((asked [a0, a1, a2, a3, a4, a5, a6, a7, a8] i0 false ms).length = n) := by unfold Hid; rw [HAS.out, srt_len]; exact hl
    generalize asked [a0, a1, a2, a3, a4, a5, a6, a7, a8] i0 false ms = AS at *
    go_enter Try.func23, Try.ntmps23
    go_wp2_with fail
    refine hO.mono ?_
    rintro r w1 ⟨rfl, hb1⟩
    have hbb := hb0.trans (hb1.mono hb0.size)
    have hba : Below w1.heap.size w1 (w1.alloc (.cells #[.int .i64 a0, .int .i64 a1, .int .i64 a2, .int .i64 a3, .int .i64 a4, .int .i64 a5, .int .i64 a6, .int .i64 a7, .int .i64 a8, .int .i64 (i0 : Int)] 57)) := (Below.refl _ _).alloc (Nat.le_refl _) _
    have hK1 := (hK.below hb1).below hba
    have hA1 := (hA.below hb1).below hba
    have hQ : ArrI 57 .i64 (w1.alloc (.cells #[.int .i64 a0, .int .i64 a1, .int .i64 a2, .int .i64 a3, .int .i64 a4, .int .i64 a5, .int .i64 a6, .int .i64 a7, .int .i64 a8, .int .i64 (i0 : Int)] 57)) w1.heap.size [a0, a1, a2, a3, a4, a5, a6, a7, a8, (i0 : Int)] := ArrI.new 57 .i64 w1 [a0, a1, a2, a3, a4, a5, a6, a7, a8, (i0 : Int)]
    have hb2 := hbb.trans (hba.mono hbb.size)
    have hr1 := hr.below hb2
    obtain ⟨c0, c1, c2, c3, c4, c5, c6, c7, c8, c9⟩ := ten hQ
    obtain ⟨k0, k1⟩ := hK1.two
    have hN := near_any a0 a1 a2 a3 a4 a5 a6 a7 a8 i0 hi0 p n c ms hss _ hr1 (by omega) (by omega)
    rw [← HAS.out, ← HLn.out] at hN
    clear hO hr hA hA1 hK hK1 hb0 hb1 hbb hba hr1 hQ HAS
    rw [HLn.out] at hN
    go_wp2_with fail
    refine hN.mono ?_
    rintro r w4 ⟨q, d, rfl, hrA, hb3q⟩
    have hb3 := hb2.trans (hb3q.mono hb2.size)
    rw [← HLn.out] at hrA ⊢
    clear hN hb3q hb2 c0 c1 c2 c3 c4 c5 c6 c7 c8 c9 k0 k1
    go_wp2_with fail
    generalize hB0 : w4.heap.size = B0 at *
    go_loopw [15, 43] (fun v i wr => ∃ (k : Nat) (q2 : Option Addr) (d2 : Nat), k ≤ T ∧ i = .int .i64 k ∧ v = .slice q2 k d2 ∧ Ow .i64 3 wr B0 q2 k d2 (cyc (AS.map (·.n)) k) ∧ Below B0 w4 wr) (fun _ i _ => T - (intOf i).toNat)
    case atStart => exact ⟨0, none, 0, Nat.zero_le _, rfl, rfl, Ow.empty _ _ _ _ _, Below.refl _ _⟩
    case round =>
      obtain ⟨k, q2, d2, hk2, rfl, rfl, ho, hb⟩ := hrel
      have hbW : Below w4.heap.size w4 wr := by rw [hB0]; exact hb
      by_cases h : k < T
      · have hmod : k % AS.length < AS.length := Nat.mod_lt _ hap
        obtain ⟨g1, o1, hpe, cc⟩ := (hrA.below hbW).cells hap
        cases hpe
        have x1 := (cc (k % AS.length) hmod).1
        try rw [Nat.zero_add] at x1
        have HS : Hid (cyc (AS.map (·.n)) (k + 1) = cyc (AS.map (·.n)) k ++ [(AS.getD (k % AS.length) .z0).n]) := by
          unfold Hid
          rw [cyc_succ, List.length_map]
          congr 2
          rw [List.getD_eq_getElem?_getD, List.getD_eq_getElem?_getD, List.getElem?_map, List.getElem?_eq_getElem hmod]
          rfl
        have hkT : (k : Int) < (T : Int) := by omega
        have hmi : (k : Int).tmod (AS.length : Int) = ((k % AS.length : Nat) : Int) := (Int.ofNat_tmod _ _).symm
        have hmi2 : ((k % AS.length : Nat) : Int) < (AS.length : Int) := by omega
        have hne : ((AS.length : Int) == 0) = false := by rw [beq_eq_false_iff_ne]; omega
        generalize hfn : (AS.getD (k % AS.length) .z0).n = fn at *
        generalize hmm : k % AS.length = mo at *
        generalize AS.map (·.n) = LL at *
        generalize cyc LL k = ys at *
        generalize hAL : AS.length = al at *
        clear cc
        have hba : Below wr.heap.size wr (wr.alloc (.cells #[.int .i64 fn] 3)) := (Below.refl _ _).alloc (Nat.le_refl _) _
        have hob := ho.below hba
        have hbc := hb.trans (hba.mono (by rw [← hB0]; exact hbW.size))
        have hone := Rd.one .i64 wr 3 fn
        clear ho hb
        go_wp2_with (at_builtin; refine wpList_app _ rfl (.tmp 46) (.tmp 55) 37 rfl .i64 3 i1 (.int .i64 0) 8 Try.underlying37 hi1 hz0 hz1 hz2 rfl B0 q2 k d2 ys rfl hob (some ⟨wr.heap.size, 0, none⟩) 1 1 [fn] rfl hone (by omega) (by unfold maxLen; omega) (by rw [← hB0]; exact Nat.le_trans hbW.size hba.size) ?_)
        intro p3 c3 w6 ho2 hb4
        go_wp2_with fail
        go_roundw
        case rel => exact ⟨k + 1, p3, c3, by omega, by go_num, rfl, by rw [HS.out]; exact ho2, hbc.trans hb4⟩
        case measure => simp [intOf]; omega
      · obtain rfl : k = T := by omega
        have hki : ¬ (k : Int) < (k : Int) := by omega
        have hrd := ho.rd
        have hbz := hb3.trans (hb.mono (by rw [← hB0]; exact hb3.size))
        clear ho hb
        go_wp2_with fail
        go_ret2
        exact ⟨q2, d2, rfl, hrd, hbz⟩
  | true =>
    have HAS : Hid (asked [a0, a1, a2, a3, a4, a5, a6, a7, a8] i0 true ms = ms.filter (fun m => !m.f)) := rfl
    generalize asked [a0, a1, a2, a3, a4, a5, a6, a7, a8] i0 true ms = AS at *
    go_enter Try.func23, Try.ntmps23
    go_wp2_with fail
    refine hO.mono ?_
    rintro r w1 ⟨rfl, hb1⟩
    have hbb := hb0.trans (hb1.mono hb0.size)
    have hba : Below w1.heap.size w1 (w1.alloc (.cells #[.int .i64 a0, .int .i64 a1, .int .i64 a2, .int .i64 a3, .int .i64 a4, .int .i64 a5, .int .i64 a6, .int .i64 a7, .int .i64 a8, .int .i64 (i0 : Int)] 57)) := (Below.refl _ _).alloc (Nat.le_refl _) _
    have hK1 := (hK.below hb1).below hba
    have hA1 := (hA.below hb1).below hba
    have hQ : ArrI 57 .i64 (w1.alloc (.cells #[.int .i64 a0, .int .i64 a1, .int .i64 a2, .int .i64 a3, .int .i64 a4, .int .i64 a5, .int .i64 a6, .int .i64 a7, .int .i64 a8, .int .i64 (i0 : Int)] 57)) w1.heap.size [a0, a1, a2, a3, a4, a5, a6, a7, a8, (i0 : Int)] := ArrI.new 57 .i64 w1 [a0, a1, a2, a3, a4, a5, a6, a7, a8, (i0 : Int)]
    have hb2 := hbb.trans (hba.mono hbb.size)
    have hr1 := hr.below hb2
    obtain ⟨c0, c1, c2, c3, c4, c5, c6, c7, c8, c9⟩ := ten hQ
    obtain ⟨k0, k1⟩ := hK1.two
    have hN := near_any a0 a1 a2 a3 a4 a5 a6 a7 a8 i0 hi0 p n c ms hss _ hr1 (by omega) (by omega)
    clear hO hA hA1 hK hb0 hb1 hba hQ
    go_wp2_with fail
    refine hN.mono ?_
    rintro r w2 ⟨q, d, rfl, _, hb3q⟩
    have hb5 := hb2.trans (hb3q.mono hb2.size)
    obtain ⟨k2, k3⟩ := (hK1.below hb3q).two
    have hCl := cloneM_any p n c ms _ (hr.below hb5) hn
    clear hN hb3q hb2 c0 c1 c2 c3 c4 c5 c6 c7 c8 c9 k0 k1 hr1 hK1 hbb
    go_wp2_with fail
    refine hCl.mono ?_
    rintro r w3 ⟨v, rfl, hcp, hb6q⟩
    have hb6 := hb5.trans (hb6q.mono hb5.size)
    rcases hcp with ⟨h0, _⟩ | ⟨_, hown⟩
    · omega
    obtain ⟨g, N, rfl, hg, hR⟩ := Row.of_owns hown hl (by omega)
    have hgw : w.heap.size ≤ g := Nat.le_trans hb5.size hg
    have hDe := deleteF_any 40 cfTr #[] (fun m => m.f) w3 w.heap.size g N ms hR hgw (by omega) (asksTr _ _)
    rw [← HAS.out, hl] at hDe
    clear hCl hown hb6q hb5 k2 k3 hr HAS
    go_wp2_with fail
    refine hDe.mono ?_
    rintro r w4 ⟨rfl, hrA, hb7⟩
    have hb3 := hb6.trans hb7
    clear hDe hb7 hb6 hR
    go_wp2_with fail
    generalize hB0 : w4.heap.size = B0 at *
    go_loopw [15, 43] (fun v i wr => ∃ (k : Nat) (q2 : Option Addr) (d2 : Nat), k ≤ T ∧ i = .int .i64 k ∧ v = .slice q2 k d2 ∧ Ow .i64 3 wr B0 q2 k d2 (cyc (AS.map (·.n)) k) ∧ Below B0 w4 wr) (fun _ i _ => T - (intOf i).toNat)
    case atStart => exact ⟨0, none, 0, Nat.zero_le _, rfl, rfl, Ow.empty _ _ _ _ _, Below.refl _ _⟩
    case round =>
      obtain ⟨k, q2, d2, hk2, rfl, rfl, ho, hb⟩ := hrel
      have hbW : Below w4.heap.size w4 wr := by rw [hB0]; exact hb
      by_cases h : k < T
      · have hmod : k % AS.length < AS.length := Nat.mod_lt _ hap
        obtain ⟨g1, o1, hpe, cc⟩ := (hrA.below hbW).cells hap
        cases hpe
        have x1 := (cc (k % AS.length) hmod).1
        try rw [Nat.zero_add] at x1
        have HS : Hid (cyc (AS.map (·.n)) (k + 1) = cyc (AS.map (·.n)) k ++ [(AS.getD (k % AS.length) .z0).n]) := by
          unfold Hid
          rw [cyc_succ, List.length_map]
          congr 2
          rw [List.getD_eq_getElem?_getD, List.getD_eq_getElem?_getD, List.getElem?_map, List.getElem?_eq_getElem hmod]
          rfl
        have hkT : (k : Int) < (T : Int) := by omega
        have hmi : (k : Int).tmod (AS.length : Int) = ((k % AS.length : Nat) : Int) := (Int.ofNat_tmod _ _).symm
        have hmi2 : ((k % AS.length : Nat) : Int) < (AS.length : Int) := by omega
        have hne : ((AS.length : Int) == 0) = false := by rw [beq_eq_false_iff_ne]; omega
        generalize hfn : (AS.getD (k % AS.length) .z0).n = fn at *
        generalize hmm : k % AS.length = mo at *
        generalize AS.map (·.n) = LL at *
        generalize cyc LL k = ys at *
        generalize hAL : AS.length = al at *
        clear cc
        have hba : Below wr.heap.size wr (wr.alloc (.cells #[.int .i64 fn] 3)) := (Below.refl _ _).alloc (Nat.le_refl _) _
        have hob := ho.below hba
        have hbc := hb.trans (hba.mono (by rw [← hB0]; exact hbW.size))
        have hone := Rd.one .i64 wr 3 fn
        clear ho hb
        go_wp2_with (at_builtin; refine wpList_app _ rfl (.tmp 46) (.tmp 55) 37 rfl .i64 3 i1 (.int .i64 0) 8 Try.underlying37 hi1 hz0 hz1 hz2 rfl B0 q2 k d2 ys rfl hob (some ⟨wr.heap.size, 0, none⟩) 1 1 [fn] rfl hone (by omega) (by unfold maxLen; omega) (by rw [← hB0]; exact Nat.le_trans hbW.size hba.size) ?_)
        intro p3 c3 w6 ho2 hb4
        go_wp2_with fail
        go_roundw
        case rel => exact ⟨k + 1, p3, c3, by omega, by go_num, rfl, by rw [HS.out]; exact ho2, hbc.trans hb4⟩
        case measure => simp [intOf]; omega
      · obtain rfl : k = T := by omega
        have hki : ¬ (k : Int) < (k : Int) := by omega
        have hrd := ho.rd
        have hbz := hb3.trans (hb.mono (by rw [← hB0]; exact hb3.size))
        clear ho hb
        go_wp2_with fail
        go_ret2
        exact ⟨q2, d2, rfl, hrd, hbz⟩

end Go.Proofs.Ytdjeafaaclhpkaa.M
