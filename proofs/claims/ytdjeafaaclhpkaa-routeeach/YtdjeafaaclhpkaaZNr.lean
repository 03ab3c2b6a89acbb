/-
  Own text: contracts of route's nearer and through.
-/
import Derived.Test.YtdjeafaaclhpkaaZAsk2
namespace Go.Proofs.Ytdjeafaaclhpkaa.M
open Go.ChangeShapes Go.WideShapes Go.ChangeAt Go.RowKit

/-- Who is asked first: below 0, the first of the two. -/
def nrC (xs : List Int) (i : Nat) (m n : Mb) : Int := if m.f == n.f then cmpI (wv xs i m.s.toNat) (wv xs i n.s.toNat) else if m.f then 1 else -1

/-- A member at a site. -/
def atSite (m : Mb) : Prop := 0 ≤ m.s ∧ m.s < 3

set_option maxRecDepth 20000 in
set_option maxHeartbeats 2000000 in
theorem nearer_any (a0 a1 a2 a3 a4 a5 a6 a7 a8 : Int) (i : Nat) (hi : i < 3) (m n : Mb) (hm : atSite m) (hn : atSite n) (w : World) :
    Calls Try.prog 49 #[.agg #[.int .i64 a0, .int .i64 a1, .int .i64 a2, .int .i64 a3, .int .i64 a4, .int .i64 a5, .int .i64 a6, .int .i64 a7, .int .i64 a8, .int .i64 (i : Int)], .agg #[.int .i64 m.n, .int .i64 m.s, .bool m.f], .agg #[.int .i64 n.n, .int .i64 n.s, .bool n.f]] w fun r w' => r = .returned (.int .i64 (nrC [a0, a1, a2, a3, a4, a5, a6, a7, a8] i m n)) ∧ Below w.heap.size w w' := by
  obtain ⟨mn, ms, mf⟩ := m
  obtain ⟨nn, ns, nf⟩ := n
  obtain ⟨hm1, hm2⟩ := hm
  obtain ⟨hn1, hn2⟩ := hn
  dsimp only at hm1 hm2 hn1 hn2 ⊢
  obtain ⟨j, rfl⟩ := Int.eq_ofNat_of_zero_le hm1
  obtain ⟨k, rfl⟩ := Int.eq_ofNat_of_zero_le hn1
  have HC : Hid (nrC [a0, a1, a2, a3, a4, a5, a6, a7, a8] i ⟨mn, (j : Int), mf⟩ ⟨nn, (k : Int), nf⟩ = if mf == nf then cmpI (wv [a0, a1, a2, a3, a4, a5, a6, a7, a8] i j) (wv [a0, a1, a2, a3, a4, a5, a6, a7, a8] i k) else if mf then 1 else -1) := rfl
  have hT1 := fun W => to_any a0 a1 a2 a3 a4 a5 a6 a7 a8 i j hi (by omega) mn mf W
  have hT2 := fun W => to_any a0 a1 a2 a3 a4 a5 a6 a7 a8 i k hi (by omega) nn nf W
  have hCm := fun W => compare_any (wv [a0, a1, a2, a3, a4, a5, a6, a7, a8] i j) (wv [a0, a1, a2, a3, a4, a5, a6, a7, a8] i k) W
  have hA : ArrI 57 .i64 (((w.alloc (.cells #[.int .i64 a0, .int .i64 a1, .int .i64 a2, .int .i64 a3, .int .i64 a4, .int .i64 a5, .int .i64 a6, .int .i64 a7, .int .i64 a8, .int .i64 (i : Int)] 57)).alloc (.cells #[.int .i64 mn, .int .i64 (j : Int), .bool mf] 36)).alloc (.cells #[.int .i64 nn, .int .i64 (k : Int), .bool nf] 36)) w.heap.size [a0, a1, a2, a3, a4, a5, a6, a7, a8, (i : Int)] := ((ArrI.new 57 .i64 w [a0, a1, a2, a3, a4, a5, a6, a7, a8, (i : Int)]).alloc _).alloc _
  have hb0 : Below w.heap.size w (((w.alloc (.cells #[.int .i64 a0, .int .i64 a1, .int .i64 a2, .int .i64 a3, .int .i64 a4, .int .i64 a5, .int .i64 a6, .int .i64 a7, .int .i64 a8, .int .i64 (i : Int)] 57)).alloc (.cells #[.int .i64 mn, .int .i64 (j : Int), .bool mf] 36)).alloc (.cells #[.int .i64 nn, .int .i64 (k : Int), .bool nf] 36)) := (((Below.refl _ _).alloc (Nat.le_refl _) _).alloc (by simp) _).alloc (by simp; omega) _
  obtain ⟨c0, c1, c2, c3, c4, c5, c6, c7, c8, c9⟩ := ten hA
  have hD1 : At 36 (((w.alloc (.cells #[.int .i64 a0, .int .i64 a1, .int .i64 a2, .int .i64 a3, .int .i64 a4, .int .i64 a5, .int .i64 a6, .int .i64 a7, .int .i64 a8, .int .i64 (i : Int)] 57)).alloc (.cells #[.int .i64 mn, .int .i64 (j : Int), .bool mf] 36)).alloc (.cells #[.int .i64 nn, .int .i64 (k : Int), .bool nf] 36)) (w.heap.size + 1) #[.int .i64 mn, .int .i64 (j : Int), .bool mf] := ((At.new _ (w.alloc (.cells #[.int .i64 a0, .int .i64 a1, .int .i64 a2, .int .i64 a3, .int .i64 a4, .int .i64 a5, .int .i64 a6, .int .i64 a7, .int .i64 a8, .int .i64 (i : Int)] 57)) _).moved (by simp)).alloc _
  have hD2 : At 36 (((w.alloc (.cells #[.int .i64 a0, .int .i64 a1, .int .i64 a2, .int .i64 a3, .int .i64 a4, .int .i64 a5, .int .i64 a6, .int .i64 a7, .int .i64 a8, .int .i64 (i : Int)] 57)).alloc (.cells #[.int .i64 mn, .int .i64 (j : Int), .bool mf] 36)).alloc (.cells #[.int .i64 nn, .int .i64 (k : Int), .bool nf] 36)) (w.heap.size + 1 + 1) #[.int .i64 nn, .int .i64 (k : Int), .bool nf] := (At.new _ ((w.alloc (.cells #[.int .i64 a0, .int .i64 a1, .int .i64 a2, .int .i64 a3, .int .i64 a4, .int .i64 a5, .int .i64 a6, .int .i64 a7, .int .i64 a8, .int .i64 (i : Int)] 57)).alloc (.cells #[.int .i64 mn, .int .i64 (j : Int), .bool mf] 36)) _).moved (by simp)
  obtain ⟨d0, d1, d2⟩ := hD1.three
  obtain ⟨d3, d4, d5⟩ := hD2.three
  clear hD1 hD2
  generalize wv [a0, a1, a2, a3, a4, a5, a6, a7, a8] i j = X at *
  generalize wv [a0, a1, a2, a3, a4, a5, a6, a7, a8] i k = Y at *
  generalize nrC [a0, a1, a2, a3, a4, a5, a6, a7, a8] i ⟨mn, (j : Int), mf⟩ ⟨nn, (k : Int), nf⟩ = V at *
  clear hA hm1 hm2 hn1 hn2 hi
  by_cases hf : mf = nf
  · subst hf
    have HN : Hid (V = cmpI X Y) := by unfold Hid; rw [HC.out, beq_self_eq_true, if_pos rfl]
    generalize cmpI X Y = Z at *
    go_enter Try.func49, Try.ntmps49
    go_wp2_with fail
    generalize (((w.alloc (.cells #[.int .i64 a0, .int .i64 a1, .int .i64 a2, .int .i64 a3, .int .i64 a4, .int .i64 a5, .int .i64 a6, .int .i64 a7, .int .i64 a8, .int .i64 (i : Int)] 57)).alloc (.cells #[.int .i64 mn, .int .i64 (j : Int), .bool mf] 36)).alloc (.cells #[.int .i64 nn, .int .i64 (k : Int), .bool mf] 36)) = w0 at *
    have k0 := cell_regrown c0
    have k1 := cell_regrown c1
    have k2 := cell_regrown c2
    have k3 := cell_regrown c3
    have k4 := cell_regrown c4
    have k5 := cell_regrown c5
    have k6 := cell_regrown c6
    have k7 := cell_regrown c7
    have k8 := cell_regrown c8
    have k9 := cell_regrown c9
    have l0 := cell_regrown d0
    have l1 := cell_regrown d1
    have l2 := cell_regrown d2
    have l3 := cell_regrown d3
    have l4 := cell_regrown d4
    have l5 := cell_regrown d5
    have g1 := fun d os => Calls.regrown_of (hT1 (Sort.grow (redrawn w0 d) os))
    have g2 := fun d os => Calls.regrown_of (hT2 (Sort.grow (redrawn w0 d) os))
    have g3 := fun d os => Calls.regrown_of ((hCm (Sort.grow (redrawn w0 d) os)).mono fun e w' ⟨h, hw⟩ => ⟨h, hw ▸ Below.refl _ _⟩)
    clear hT1 hT2 hCm HC
    refine wp_region_quiet_below (by kernel_rfl) (by kernel_rfl) ?_
    repeat (quiet_step (first | (go_at_call 51; first | with_reducible exact g1 _ _ | with_reducible exact g2 _ _) | (go_at_call 54; exact g3 _ _)))
    refine wpQuiet_nil ?_
    intro _ hw'
    obtain ⟨⟨dq, osq⟩, hw''⟩ := hw'
    subst hw''
    have hbq := below_regrown w0 dq osq
    go_wp2_with fail
    go_ret
    exact ⟨ret_int HN.out.symm, hb0.trans (hbq.mono hb0.size)⟩
  · have hff : (mf == nf) = false := by simp [hf]
    cases mf with
    | true =>
      have HN : Hid (V = 1) := by unfold Hid; rw [HC.out, hff]; rfl
      cases nf with
      | true => exact absurd rfl hf
      | false =>
        clear HC hT1 hT2 hCm hff hf
        go_enter Try.func49, Try.ntmps49
        go_wp2_with fail
        go_ret
        exact ⟨ret_int HN.out.symm, hb0⟩
    | false =>
      have HN : Hid (V = -1) := by unfold Hid; rw [HC.out, hff]; rfl
      cases nf with
      | false => exact absurd rfl hf
      | true =>
        clear HC hT1 hT2 hCm hff hf
        go_enter Try.func49, Try.ntmps49
        go_wp2_with fail
        go_ret
        exact ⟨ret_int HN.out.symm, hb0⟩

/-- The way through members, from a site on. -/
def thr (xs : List Int) : Nat → List Mb → Int
  | _, [] => 0
  | i, m :: l => wv xs i m.s.toNat + thr xs m.s.toNat l

theorem thr_bounds {xs : List Int} (h : inW xs) : ∀ (l : List Mb) (i : Nat), 0 ≤ thr xs i l ∧ thr xs i l ≤ 1000 * (l.length : Int)
  | [], _ => by simp [thr]
  | m :: l, i => by
    have h1 := thr_bounds h l m.s.toNat
    have h2 := h.at i m.s.toNat
    unfold thr
    simp only [List.length_cons]
    omega

set_option maxRecDepth 20000 in
set_option maxHeartbeats 2000000 in
theorem through_any (a0 a1 a2 a3 a4 a5 a6 a7 a8 : Int) (i0 : Nat) (hi : i0 < 3) (p : Option Addr) (n c : Nat) (ms : List Mb) (hs : ∀ m ∈ ms, atSite m) (hW : inW [a0, a1, a2, a3, a4, a5, a6, a7, a8]) (w : World) (hr : RdM w p n c ms) (hn : n ≤ 60) :
    Calls Try.prog 34 #[.agg #[.int .i64 a0, .int .i64 a1, .int .i64 a2, .int .i64 a3, .int .i64 a4, .int .i64 a5, .int .i64 a6, .int .i64 a7, .int .i64 a8, .int .i64 (i0 : Int)], .slice p n c] w fun r w' => r = .returned (.int .i64 (2 * thr [a0, a1, a2, a3, a4, a5, a6, a7, a8] i0 ms)) ∧ Below w.heap.size w w' := by
  have hA0 : ArrI 57 .i64 (w.alloc (.cells #[.int .i64 a0, .int .i64 a1, .int .i64 a2, .int .i64 a3, .int .i64 a4, .int .i64 a5, .int .i64 a6, .int .i64 a7, .int .i64 a8, .int .i64 (i0 : Int)] 57)) w.heap.size [a0, a1, a2, a3, a4, a5, a6, a7, a8, (i0 : Int)] := ArrI.new 57 .i64 w [a0, a1, a2, a3, a4, a5, a6, a7, a8, (i0 : Int)]
  have hb0 : Below w.heap.size w (w.alloc (.cells #[.int .i64 a0, .int .i64 a1, .int .i64 a2, .int .i64 a3, .int .i64 a4, .int .i64 a5, .int .i64 a6, .int .i64 a7, .int .i64 a8, .int .i64 (i0 : Int)] 57)) := (Below.refl _ _).alloc (Nat.le_refl _) _
  have hl := hr.len
  have HTB : Hid (∀ (l : List Mb) (i : Nat), 0 ≤ thr [a0, a1, a2, a3, a4, a5, a6, a7, a8] i l ∧ thr [a0, a1, a2, a3, a4, a5, a6, a7, a8] i l ≤ 1000 * (l.length : Int)) := thr_bounds hW
  have HWB : Hid (inW [a0, a1, a2, a3, a4, a5, a6, a7, a8]) := hW
  have HS : Hid (∀ m ∈ ms, atSite m) := hs
  have HTO : Hid (∀ (i j : Nat) (hi : i < 3) (hj : j < 3) (mn : Int) (mf : Bool) (w : World), Calls Try.prog 51 #[.agg #[.int .i64 a0, .int .i64 a1, .int .i64 a2, .int .i64 a3, .int .i64 a4, .int .i64 a5, .int .i64 a6, .int .i64 a7, .int .i64 a8, .int .i64 (i : Int)], .agg #[.int .i64 mn, .int .i64 (j : Int), .bool mf]] w fun r w' => r = .returned (.int .i64 (wv [a0, a1, a2, a3, a4, a5, a6, a7, a8] i j)) ∧ Below w.heap.size w w') := fun i j hi hj mn mf w => to_any a0 a1 a2 a3 a4 a5 a6 a7 a8 i j hi hj mn mf w
  obtain ⟨xs, hxs⟩ : ∃ xs, xs = [a0, a1, a2, a3, a4, a5, a6, a7, a8] := ⟨_, rfl⟩
  rw [← hxs] at HTB HWB HTO ⊢
  clear hW hs hxs
  go_enter Try.func34, Try.ntmps34
  go_wp2_with fail
  generalize (w.alloc (.cells #[.int .i64 a0, .int .i64 a1, .int .i64 a2, .int .i64 a3, .int .i64 a4, .int .i64 a5, .int .i64 a6, .int .i64 a7, .int .i64 a8, .int .i64 (i0 : Int)] 57)) = w0 at *
  generalize hg : w.heap.size = g at *
  go_loopw [10, 5] (fun i t wr => ∃ (k X : Nat) (T : Int), k ≤ n ∧ X < 3 ∧ i = .int .i64 k ∧ t = .int .i64 T ∧ 0 ≤ T ∧ T ≤ 1000 * (k : Int) ∧ ArrI 57 .i64 wr g [a0, a1, a2, a3, a4, a5, a6, a7, a8, (X : Int)] ∧ Hid (thr xs i0 ms = T + thr xs X (ms.drop k)) ∧ Below g w wr) (fun i _ _ => n - (intOf i).toNat)
  case atStart => exact ⟨0, i0, 0, Nat.zero_le _, hi, rfl, rfl, by decide, by decide, hA0, by unfold Hid; simp, hb0⟩
  case round =>
    clear hA0 hb0
    obtain ⟨k, X, T, hk, hX, rfl, rfl, hT0, hT1, hA, HT, hb⟩ := hrel
    by_cases h : k < n
    · obtain ⟨b, o, rfl, hc⟩ := (hr.below (by rw [hg]; exact hb)).cells (by omega)
      obtain ⟨x1, x2, x3⟩ := hc k h
      have hk1 : (k : Int) < (n : Int) := by omega
      have hd := drop_mb (fs := ms) (k := k) (by omega)
      have hT2 := HT.out
      rw [hd] at hT2
      have hsm := HS.out _ (getD_mb (fs := ms) (k := k) (by omega))
      clear HT hd hc hr
      generalize ms.getD k .z0 = m at *
      obtain ⟨mn, msi, mf⟩ := m
      obtain ⟨s1, s2⟩ := hsm
      dsimp only at x1 x2 x3 s1 s2
      obtain ⟨j, rfl⟩ := Int.eq_ofNat_of_zero_le s1
      have hTo := fun W => HTO.out X j hX (by omega) mn mf W
      have hvb := HWB.out.at X j
      have HT3 : Hid (thr xs i0 ms = T + (wv xs X j + thr xs j (ms.drop (k + 1)))) := hT2
      clear hT2
      generalize wv xs X j = V at *
      have hba := hb.alloc (by rw [← hg]; exact hb.size) (.cells #[.int .i64 mn, .int .i64 (j : Int), .bool mf] 36)
      have hM := At.new 36 wr #[.int .i64 mn, .int .i64 (j : Int), .bool mf]
      have hA2 := hA.alloc (.cells #[.int .i64 mn, .int .i64 (j : Int), .bool mf] 36)
      obtain ⟨c0, c1, c2, c3, c4, c5, c6, c7, c8, c9⟩ := ten hA2
      obtain ⟨d0, d1, d2⟩ := hM.three
      have hj3 : (j : Int) < 3 := s2
      have hwr : IntKind.i64.wrap (T + V) = T + V := by rw [IntKind.wrap_i64]; omega
      go_wp2_with fail
      refine (hTo _).mono ?_
      rintro r w1 ⟨rfl, hb1⟩
      have hA3 := hA2.below hb1
      have hM3 := hM.below hb1
      have hb3 := hba.trans (hb1.mono (by rw [← hg]; exact hba.size))
      obtain ⟨e0, e1, e2⟩ := hM3.three
      have f9 := hA3.free 9
      have e9 := hA3.cell (i := 9) (by simp)
      have hA4 := hA3.set 9 (j : Int)
      have hb4 : Below g w (w1.setCell ⟨g, 9, none⟩ (.int .i64 (j : Int))) := hb3.trans ((Ex.setC (g := g) (w := w1) [.int .i64 (j : Int)] 9 w1 (Ex.refl _ _)).below (Nat.le_refl _) hA3.lt)
      clear c0 c1 c2 c3 c4 c5 c6 c7 c8 c9 d0 d1 d2 hA hA2 hA3 hM hM3 hb hb1 hba hb3 x1 x2 x3 hTo
      simp only [List.getD_eq_getElem?_getD, List.getElem?_cons_succ, List.getElem?_cons_zero, Option.getD_some] at e9
      have HT4 : Hid (thr xs i0 ms = T + V + thr xs j (ms.drop (k + 1))) := by unfold Hid; rw [HT3.out]; omega
      clear HT3
      go_wp2_with fail
      go_roundw
      case rel => exact ⟨k + 1, j, T + V, by omega, by omega, by go_num, rfl, by omega, by omega, hA4, HT4, hb4⟩
      case measure => simp [intOf]; omega
    · obtain rfl : k = n := by omega
      have HN : Hid (thr xs i0 ms = T) := by
        unfold Hid; rw [HT.out, List.drop_of_length_le (by omega), thr]; omega
      have hwr : IntKind.i64.wrap (2 * T) = 2 * T := by rw [IntKind.wrap_i64]; omega
      clear HT hr
      go_wp2_with fail
      go_ret
      exact ⟨ret_int (by rw [HN.out]), by first | exact hb | (rw [hg]; exact hb)⟩

end Go.Proofs.Ytdjeafaaclhpkaa.M
