/-
  Own text: contracts of bytes.Equal and of slices.Clone over the program of this seat.
  Own text: a command's bytes are read as it; bytes that are a command are its bytes.
  Own text: the walk of the statement 'LedgerCommands'.
-/
import Derived.Test.YtcnkpgbmegppbaaPut
import Derived.Lib.Bytes
import Derived.WalkSpells
import Derived.Test.YtcnkpgbmegppbaaJGet2
import Derived.Test.YtcnkpgbmegppbaaJPut
import Derived.Test.YtcnkpgbmegppbaaJAwake
import Derived.Test.YtcnkpgbmegppbaaJRGet
import Derived.Lib.QuietBelow
namespace Go.Proofs.Ytcnkpgbmegppbaa.M
open Go.ChangeShapes Go.WideShapes Go.ChangeAt Go.RowKit

theorem ofNat_inj {x y : Int} (hx : 0 ≤ x ∧ x < 256) (hy : 0 ≤ y ∧ y < 256) (h : UInt8.ofNat x.toNat = UInt8.ofNat y.toNat) : x = y := by
  have := congrArg UInt8.toNat h
  simp only [UInt8.toNat_ofNat'] at this
  omega

theorem bytesOf_inj : ∀ {xs ys : List Int}, By xs → By ys → Lib.bytesOf xs = Lib.bytesOf ys → xs = ys
  | [], [], _, _, _ => rfl
  | [], _ :: _, _, _, h => by simp [Lib.bytesOf] at h
  | _ :: _, [], _, _, h => by simp [Lib.bytesOf] at h
  | x :: xs, y :: ys, hx, hy, h => by
    simp only [Lib.bytesOf, List.map_cons, List.cons.injEq] at h
    rw [ofNat_inj (hx x (by simp)) (hy y (by simp)) h.1, bytesOf_inj (xs := xs) (ys := ys) (fun z hz => hx z (by simp [hz])) (fun z hz => hy z (by simp [hz])) h.2]

theorem bytesOf_beq {xs ys : List Int} (hx : By xs) (hy : By ys) : (Lib.bytesOf xs == Lib.bytesOf ys) = decide (xs = ys) := by
  by_cases h : xs = ys
  · subst h; simp
  · rw [decide_eq_false h]
    apply beq_false_of_ne
    exact fun e => h (bytesOf_inj hx hy e)

theorem Rd.conv {P : Program} {w : World} {p : Option Addr} {n c : Nat} {xs : List Int} (h : Rd .u8 w p n c xs) (src e dst : TypeId) (hs : P.underlying src = some (.slice e)) (he : P.underlying e = some (.int .u8)) (hd : P.underlying dst = some .string) :
    (convert src dst (.slice p n c)).run P w = .ok (.string (strOfNums xs)) w := by
  by_cases hn : n = 0
  · subst hn
    obtain rfl : xs = [] := List.length_eq_zero_iff.1 h.len
    rw [run_convert_bytes_string w src dst e _ _ c hs he hd]
    cases p with
    | none => simp [Conv.bytesToString, strOfNums]; rfl
    | some a =>
      have hl : (loadCells a 0).run P w = .ok #[] w := run_loadCells_list (P := P) w a [] (by simp)
      simp [Conv.bytesToString, hl, strOfNums]
      rfl
  · obtain ⟨b, o, rfl, hc⟩ := h.cells (by omega)
    exact run_convert_bytes_arg (P := P) w src e hs he b o n c xs h.len hc dst hd

set_option maxRecDepth 20000 in
theorem equal_any (p q : Option Addr) (n c m d : Nat) (xs ys : List Int) (w : World) (hx : Rd .u8 w p n c xs) (hy : Rd .u8 w q m d ys) (bx : By xs) (by_ : By ys) :
    Calls Try.prog 15 #[.slice p n c, .slice q m d] w fun e w' => e = .returned (.bool (decide (xs = ys))) ∧ w' = w := by
  rw [← bytesOf_beq bx by_, ← Lib.strOfNums_toList, ← Lib.strOfNums_toList]
  have h1 := hx.conv (P := Try.prog) 24 5 9 Try.underlying24 Try.underlying5 Try.underlying9
  have h2 := hy.conv (P := Try.prog) 24 5 9 Try.underlying24 Try.underlying5 Try.underlying9
  clear hx hy bx by_
  go_enter Try.func15, Try.ntmps15
  go_wp2
  go_ret
  exact ⟨rfl, rfl⟩

theorem equal_same (p q : Option Addr) (n c m d : Nat) (xs : List Int) (w : World) (hx : Rd .u8 w p n c xs) (hy : Rd .u8 w q m d xs) (bx : By xs) :
    Calls Try.prog 15 #[.slice p n c, .slice q m d] w fun e w' => e = .returned (.bool true) ∧ w' = w := by
  refine (equal_any p q n c m d xs xs w hx hy bx bx).mono ?_
  rintro e w' ⟨rfl, rfl⟩
  exact ⟨by simp, rfl⟩

end Go.Proofs.Ytcnkpgbmegppbaa.M

namespace Go.Proofs.Ytcnkpgbmegppbaa.M
open Go.ChangeShapes Go.WideShapes Go.ChangeAt Go.RowKit

theorem wR_putL {m : Nat} (h : m ≤ 1099511627776) (rest : List Int) : wR (putL m ++ rest, 0) = ((m : Int), (rest, 0)) := by
  have e := numR_putL (m := m) (by omega) rest
  unfold wR
  dsimp only
  rw [if_pos rfl, e]
  dsimp only
  rw [if_pos rfl, if_pos h, List.drop_left]

theorem getR_put {k n s e : Int} (h : cmdOk k n s e = true) : getR (putAll [k, n, s, e]) = some (k, n, s, e) := by
  obtain ⟨⟨a1, a2⟩, ⟨b1, b2⟩, ⟨c1, c2⟩, d1, d2⟩ := cmd_lim h
  obtain ⟨k, rfl⟩ := Int.eq_ofNat_of_zero_le (show 0 ≤ k by omega)
  obtain ⟨n, rfl⟩ := Int.eq_ofNat_of_zero_le b1
  obtain ⟨s, rfl⟩ := Int.eq_ofNat_of_zero_le c1
  obtain ⟨e, rfl⟩ := Int.eq_ofNat_of_zero_le (show 0 ≤ e by omega)
  have hp : putAll [(k : Int), (n : Int), (s : Int), (e : Int)] = putL k ++ (putL n ++ (putL s ++ (putL e ++ []))) := by simp [putAll]
  have hc : cmd4 (putAll [(k : Int), (n : Int), (s : Int), (e : Int)]) = ((k : Int), (n : Int), (s : Int), (e : Int), 0) := by
    have hc4 : ∀ X, cmd4 X = ((wR (X, 0)).1, (wR (wR (X, 0)).2).1, (wR (wR (wR (X, 0)).2).2).1, (wR (wR (wR (wR (X, 0)).2).2).2).1, endR (wR (wR (wR (wR (X, 0)).2).2).2).2) := fun _ => rfl
    rw [hc4, hp, wR_putL (m := k) (by omega)]
    dsimp only
    rw [wR_putL (m := n) (by omega)]
    dsimp only
    rw [wR_putL (m := s) (by omega)]
    dsimp only
    rw [wR_putL (m := e) (by omega)]
    rfl
  unfold getR
  rw [hc]
  dsimp only
  rw [if_pos ⟨rfl, h⟩]

theorem wR_err {s : List Int × Nat} (h : s.2 ≠ 0) : wR s = (0, s) := by
  unfold wR
  rw [if_neg h]

theorem wR_form {s : List Int × Nat} (hb : By s.1) (h : (wR s).2.2 = 0) : s.2 = 0 ∧ ∃ m : Nat, (wR s).1 = (m : Int) ∧ s.1 = putL m ++ (wR s).2.1 := by
  obtain ⟨xs, er⟩ := s
  dsimp only at hb
  by_cases h0 : er = 0
  · subst h0
    refine ⟨rfl, ?_⟩
    unfold wR at h ⊢
    dsimp only at h ⊢
    rw [if_pos rfl] at h ⊢
    by_cases h1 : (numR xs).2.2 = 0
    · rw [if_pos h1] at h ⊢
      by_cases h2 : (numR xs).1 ≤ 1099511627776
      · rw [if_pos h2] at h ⊢
        obtain ⟨m, _, e, rest, hx⟩ := numR_form hb h1
        refine ⟨m, by rw [e], ?_⟩
        dsimp only
        rw [e]
        dsimp only
        rw [hx, List.drop_left]
      · rw [if_neg h2] at h
        exact absurd h (by decide : ¬ (5 : Nat) = 0)
    · rw [if_neg h1] at h
      exact absurd h h1
  · rw [wR_err h0] at h
    exact absurd h h0

theorem wR_by {s : List Int × Nat} (hb : By s.1) : By (wR s).2.1 := by
  unfold wR
  split
  · split
    · split
      · exact hb.drop _
      · exact hb
    · exact hb
  · exact hb

theorem getR_form {xs : List Int} (hb : By xs) {k n s e : Int} (h : getR xs = some (k, n, s, e)) : cmdOk k n s e = true ∧ putAll [k, n, s, e] = xs := by
  unfold getR at h
  by_cases hc : (cmd4 xs).2.2.2.2 = 0 ∧ cmdOk (cmd4 xs).1 (cmd4 xs).2.1 (cmd4 xs).2.2.1 (cmd4 xs).2.2.2.1 = true
  · rw [if_pos hc] at h
    obtain ⟨h1, h2⟩ := hc
    simp only [Option.some.injEq, Prod.mk.injEq] at h
    obtain ⟨rfl, rfl, rfl, rfl⟩ := h
    refine ⟨h2, ?_⟩
    have b0 : By (xs, 0).1 := hb
    have b1 := wR_by b0
    have b2 := wR_by b1
    have b3 := wR_by b2
    have e4 : endR (wR (wR (wR (wR (xs, 0)).2).2).2).2 = 0 := h1
    have z4 : (wR (wR (wR (wR (xs, 0)).2).2).2).2.2 = 0 := by
      unfold endR at e4
      by_cases hz : (wR (wR (wR (wR (xs, 0)).2).2).2).2.2 = 0
      · exact hz
      · rw [if_neg hz] at e4
        omega
    have r4 : (wR (wR (wR (wR (xs, 0)).2).2).2).2.1 = [] := by
      unfold endR at e4
      rw [if_pos z4] at e4
      by_cases hz : (wR (wR (wR (wR (xs, 0)).2).2).2).2.1 = []
      · exact hz
      · rw [if_neg hz] at e4
        exact absurd e4 (by decide)
    obtain ⟨z3, m4, v4, f4⟩ := wR_form b3 z4
    obtain ⟨z2, m3, v3, f3⟩ := wR_form b2 z3
    obtain ⟨z1, m2, v2, f2⟩ := wR_form b1 z2
    obtain ⟨_, m1, v1, f1⟩ := wR_form b0 z1
    show putAll [(wR (xs, 0)).1, (wR (wR (xs, 0)).2).1, (wR (wR (wR (xs, 0)).2).2).1, (wR (wR (wR (wR (xs, 0)).2).2).2).1] = xs
    rw [v1, v2, v3, v4]
    have hp : putAll [(m1 : Int), (m2 : Int), (m3 : Int), (m4 : Int)] = putL m1 ++ (putL m2 ++ (putL m3 ++ (putL m4 ++ []))) := by simp [putAll]
    rw [hp, ← r4, ← f4, ← f3, ← f2]
    exact f1.symm
  · rw [if_neg hc] at h
    cases h

end Go.Proofs.Ytcnkpgbmegppbaa.M

namespace Go.Proofs.Ytcnkpgbmegppbaa.M
open Go.ChangeShapes Go.WideShapes Go.ChangeAt Go.RowKit

theorem neqC_same (a b c d : Int) (w : World) : (binOp .neq 23 (.agg #[.int .i64 a, .int .i64 b, .int .i64 c, .int .i64 d]) (.agg #[.int .i64 a, .int .i64 b, .int .i64 c, .int .i64 d])).run Try.prog w = .ok (.bool false) w := by
  have u3 := Try.underlying3
  have a3 := Try.isAgg3
  have z3 := Try.sizeOf3
  have hS : Try.prog.underlying 23 = some (.struct (Try.prog.fieldsOf 23)) := by kernel_rfl
  have hp : Try.prog.stoodInHeld 23 = false := by kernel_rfl
  rw [run_neq_struct, show (10000 : Nat) = 9999 + 1 from rfl, run_equalIn_agg w 9999 23 _ _ hS hp]
  simp only [Program.fieldsOf, Try.underlying23]
  go_simp

theorem equal_sameB (p q : Option Addr) (n c m d : Nat) (xs : List Int) (w : World) (hx : Rd .u8 w p n c xs) (hy : Rd .u8 w q m d xs) (bx : By xs) :
    Calls Try.prog 15 #[.slice p n c, .slice q m d] w fun e w' => e = .returned (.bool true) ∧ Below w.heap.size w w' := by
  refine (equal_same p q n c m d xs w hx hy bx).mono ?_
  rintro e w' ⟨rfl, rfl⟩
  exact ⟨rfl, Below.refl _ _⟩

set_option linter.unusedSimpArgs false in
set_option maxRecDepth 20000 in
set_option maxHeartbeats 8000000 in
theorem walk_LedgerCommands (w : World) (xk xn xs xe : Int) (p : Option Addr) (n c : Nat) (ys : List Int) (hr : Rd .u8 w p n c ys) (hy : By ys) :
    Calls Try.prog 3 #[.agg #[.int .i64 xk, .int .i64 xn, .int .i64 xs, .int .i64 xe], .slice p n c] w fun r w' => r = .returned (.bool true) ∧ Below w.heap.size w w' := by
  have hW := fun W => awake_any W
  have hB0 := below_alloc w (.cells #[.int .i64 xk, .int .i64 xn, .int .i64 xs, .int .i64 xe] 23)
  by_cases hbig : 4096 < n
  · have hni : (4096 : Int) < (n : Int) := by omega
    clear hr hy
    go_enter Try.func3, Try.ntmps3
    go_wp2_with fail
    refine (hW _).mono ?_
    rintro o w9 ⟨rfl, hb9⟩
    go_wp2_with fail
    go_ret
    exact ⟨rfl, hB0.trans (hb9.mono hB0.size)⟩
  have hni : ¬ (4096 : Int) < (n : Int) := by omega
  have hC0 := At.new 23 w #[.int .i64 xk, .int .i64 xn, .int .i64 xs, .int .i64 xe]
  have hr0 := hr.below hB0
  clear hr
  obtain ⟨R, HG⟩ : ∃ R, Hid (getR ys = R) := ⟨_, rfl⟩
  have hform := fun k n s e (h : R = some (k, n, s, e)) => getR_form hy (HG.out.trans h)
  cases hC : cmdOk xk xn xs xe with
  | true =>
    have hLb0 := putAll_by [xk, xn, xs, xe]
    have HGL0 := getR_put hC
    have hLl0 : (putAll [xk, xn, xs, xe]).length ≤ 1099511627776 := by
      have hl := cmd_lim hC
      have h1 : Wd [xk, xn, xs, xe] := by
        intro x hx
        simp only [List.mem_cons, List.not_mem_nil, or_false] at hx
        rcases hx with rfl | rfl | rfl | rfl <;> omega
      have h2 := putAll_len h1
      simp only [List.length_cons, List.length_nil] at h2
      omega
    obtain ⟨L, HL⟩ : ∃ L, Hid (putAll [xk, xn, xs, xe] = L) := ⟨_, rfl⟩
    rw [HL.out] at hLb0 HGL0 hLl0
    have hLb : By L := hLb0
    have HGL : Hid (getR L = some (xk, xn, xs, xe)) := HGL0
    have hLl : L.length ≤ 1099511627776 := hLl0
    clear hLb0 HGL0 hLl0
    match R, HG, hform with
    | none, HG, _ =>
      have gP := lPut_ok xk xn xs xe (w.alloc (.cells #[.int .i64 xk, .int .i64 xn, .int .i64 xs, .int .i64 xe] 23)) hC
      have gQ := fun W => rPut_ok xk xn xs xe W hC
      rw [HL.out] at gP gQ
      obtain ⟨c0, c1, c2, c3⟩ := hC0.four
      go_enter Try.func3, Try.ntmps3
      go_wp2_with fail
      refine gP.mono ?_
      rintro r w1 ⟨v, rfl, p1, d1, rfl, ho1, hb1⟩
      have HB1 := hB0.trans (hb1.mono hB0.size)
      have hC1 := hC0.below hb1
      have hr1 := hr0.below hb1
      have hp1 := ho1.rd
      clear gP c0 c1 c2 c3 hC0 hr0 hB0 hb1 ho1
      obtain ⟨c0, c1, c2, c3⟩ := hC1.four
      go_wp2_with fail
      refine (gQ w1).mono ?_
      rintro r w2 ⟨v, rfl, p2, d2, rfl, ho2, hb2⟩
      have HB2 := HB1.trans (hb2.mono HB1.size)
      have hC2 := hC1.below hb2
      have hr2 := hr1.below hb2
      have hp2 := hp1.below hb2
      have hq2 := ho2.rd
      have gG := Get_any p n c ys w2 hr2 hy (by omega)
      rw [HG.out] at gG
      unfold getV at gG
      dsimp only at gG
      clear gQ c0 c1 c2 c3 hC1 hr1 HB1 hb2 hp1 ho2
      go_wp2_with fail
      refine gG.mono ?_
      rintro r w3 ⟨rfl, hb3⟩
      have hb3a := below_alloc w3 (.cells #[.int .i64 0, .int .i64 0, .int .i64 0, .int .i64 0] 23)
      have HB3 := HB2.trans (hb3.mono HB2.size)
      have HB3a := HB3.trans (hb3a.mono HB3.size)
      have hC3 := (hC2.below hb3).below hb3a
      have hr3 := (hr2.below hb3).below hb3a
      have hp3 := (hp2.below hb3).below hb3a
      have hq3 := (hq2.below hb3).below hb3a
      have hK3 := At.new 23 w3 #[.int .i64 0, .int .i64 0, .int .i64 0, .int .i64 0]
      have gG2 := rGet_any p n c ys (w3.alloc (.cells #[.int .i64 0, .int .i64 0, .int .i64 0, .int .i64 0] 23)) hr3 hy (by omega)
      rw [HG.out] at gG2
      unfold getV at gG2
      dsimp only at gG2
      clear gG hC2 hr2 HB2 HB3 hb3 hb3a hp2 hq2
      go_wp2_with fail
      generalize hgk : w3.heap.size = gk at *
      generalize (w3.alloc (.cells #[.int .i64 0, .int .i64 0, .int .i64 0, .int .i64 0] 23)) = w3a at *
      refine gG2.mono ?_
      rintro r w4 ⟨rfl, hb4⟩
      have hb4a := below_alloc w4 (.cells #[.int .i64 0, .int .i64 0, .int .i64 0, .int .i64 0] 23)
      have HB4 := HB3a.trans (hb4.mono HB3a.size)
      have HB4a := HB4.trans (hb4a.mono HB4.size)
      have hC4 := (hC3.below hb4).below hb4a
      have hr4 := (hr3.below hb4).below hb4a
      have hK4 := (hK3.below hb4).below hb4a
      have hp4 := (hp3.below hb4).below hb4a
      have hq4 := (hq3.below hb4).below hb4a
      have hM4 := At.new 23 w4 #[.int .i64 0, .int .i64 0, .int .i64 0, .int .i64 0]
      clear gG2 hC3 hr3 HB3a HB4 hb4 hb4a hK3 hp3 hq3
      go_wp2_with fail
      generalize hgm : w4.heap.size = gm at *
      generalize (w4.alloc (.cells #[.int .i64 0, .int .i64 0, .int .i64 0, .int .i64 0] 23)) = w5 at *
      obtain ⟨c0, c1, c2, c3⟩ := hC4.four
      obtain ⟨k0, k1, k2, k3⟩ := hK4.four
      obtain ⟨m0, m1, m2, m3⟩ := hM4.four
      have rc0 := cell_regrown c0
      have rc1 := cell_regrown c1
      have rc2 := cell_regrown c2
      have rc3 := cell_regrown c3
      have rk0 := cell_regrown k0
      have rk1 := cell_regrown k1
      have rk2 := cell_regrown k2
      have rk3 := cell_regrown k3
      have rm0 := cell_regrown m0
      have rm1 := cell_regrown m1
      have rm2 := cell_regrown m2
      have rm3 := cell_regrown m3
      have e1 := fun d os => Calls.regrown_of (lCheck_any xk xn xs xe (Sort.grow (redrawn w5 d) os))
      have e2 := fun d os => Calls.regrown_of (rCheck_any xk xn xs xe (Sort.grow (redrawn w5 d) os))
      generalize cmdV (cmdOk xk xn xs xe) = cv at e1 e2
      have e3 := fun d os => Calls.regrown_of (equal_sameB p1 p2 L.length d1 L.length d2 L _ (hp4.below (below_regrown w5 d os)) (hq4.below (below_regrown w5 d os)) hLb)
      have hcv : (cv != cv) = false := by simp
      have neqC := neqC_same
      clear c0 c1 c2 c3 k0 k1 k2 k3 m0 m1 m2 m3
      refine wp_region_quiet_below (by kernel_rfl) (by kernel_rfl) ?_
      repeat (quiet_step (first | (go_at_call 13; exact e1 _ _) | (go_at_call 14; exact e2 _ _) | (go_at_call 15; exact e3 _ _)))
      refine wpQuiet_nil ?_
      intro _ hw'
      obtain ⟨⟨dq, osq⟩, hw''⟩ := hw'
      subst hw''
      have hbq := below_regrown w5 dq osq
      have HB6 := HB4a.trans (hbq.mono HB4a.size)
      have hC6 := hC4.below hbq
      have hr6 := hr4.below hbq
      have hK6 := hK4.below hbq
      have hp6 := hp4.below hbq
      clear e1 e2 e3 hC4 hr4 hK4 hM4 HB4a hbq rc0 rc1 rc2 rc3 rk0 rk1 rk2 rk3 rm0 rm1 rm2 rm3 hp4 hq4
      generalize Sort.grow (redrawn w5 dq) osq = w6 at *
      have gB := Get_any p1 L.length d1 L w6 hp6 hLb hLl
      rw [HGL.out] at gB
      unfold getV at gB
      dsimp only at gB
      go_wp2_with fail
      refine gB.mono ?_
      rintro r w7 ⟨rfl, hb7⟩
      have hb7a := below_alloc w7 (.cells #[.int .i64 xk, .int .i64 xn, .int .i64 xs, .int .i64 xe] 23)
      have HB7 := HB6.trans (hb7.mono HB6.size)
      have HB8 := HB7.trans (hb7a.mono HB7.size)
      have hC8 := (hC6.below hb7).below hb7a
      have hr8 := (hr6.below hb7).below hb7a
      have hK8 := (hK6.below hb7).below hb7a
      have hN8 := At.new 23 w7 #[.int .i64 xk, .int .i64 xn, .int .i64 xs, .int .i64 xe]
      obtain ⟨c0, c1, c2, c3⟩ := hC8.four
      obtain ⟨b0, b1, b2, b3⟩ := hN8.four
      clear gB hC6 hr6 hK6 hp6 HB6 HB7 hb7 hb7a
      go_wp2_with fail
      clear c0 c1 c2 c3 b0 b1 b2 b3 hN8 hC8
      generalize (w7.alloc (.cells #[.int .i64 xk, .int .i64 xn, .int .i64 xs, .int .i64 xe] 23)) = w8 at *
      refine (hW _).mono ?_
      rintro o wz ⟨rfl, hbz⟩
      go_wp2_with fail
      go_ret
      exact ⟨rfl, HB8.trans (hbz.mono HB8.size)⟩
    | some (ka, kn, ks, ke), HG, hform =>
      obtain ⟨hkk, hpu⟩ := hform ka kn ks ke rfl
      have hput : Hid (putAll [ka, kn, ks, ke] = ys) := hpu
      clear hpu hform
      have gP := lPut_ok xk xn xs xe (w.alloc (.cells #[.int .i64 xk, .int .i64 xn, .int .i64 xs, .int .i64 xe] 23)) hC
      have gQ := fun W => rPut_ok xk xn xs xe W hC
      rw [HL.out] at gP gQ
      obtain ⟨c0, c1, c2, c3⟩ := hC0.four
      go_enter Try.func3, Try.ntmps3
      go_wp2_with fail
      refine gP.mono ?_
      rintro r w1 ⟨v, rfl, p1, d1, rfl, ho1, hb1⟩
      have HB1 := hB0.trans (hb1.mono hB0.size)
      have hC1 := hC0.below hb1
      have hr1 := hr0.below hb1
      have hp1 := ho1.rd
      clear gP c0 c1 c2 c3 hC0 hr0 hB0 hb1 ho1
      obtain ⟨c0, c1, c2, c3⟩ := hC1.four
      go_wp2_with fail
      refine (gQ w1).mono ?_
      rintro r w2 ⟨v, rfl, p2, d2, rfl, ho2, hb2⟩
      have HB2 := HB1.trans (hb2.mono HB1.size)
      have hC2 := hC1.below hb2
      have hr2 := hr1.below hb2
      have hp2 := hp1.below hb2
      have hq2 := ho2.rd
      have gG := Get_any p n c ys w2 hr2 hy (by omega)
      rw [HG.out] at gG
      unfold getV at gG
      dsimp only at gG
      clear gQ c0 c1 c2 c3 hC1 hr1 HB1 hb2 hp1 ho2
      go_wp2_with fail
      refine gG.mono ?_
      rintro r w3 ⟨rfl, hb3⟩
      have hb3a := below_alloc w3 (.cells #[.int .i64 ka, .int .i64 kn, .int .i64 ks, .int .i64 ke] 23)
      have HB3 := HB2.trans (hb3.mono HB2.size)
      have HB3a := HB3.trans (hb3a.mono HB3.size)
      have hC3 := (hC2.below hb3).below hb3a
      have hr3 := (hr2.below hb3).below hb3a
      have hp3 := (hp2.below hb3).below hb3a
      have hq3 := (hq2.below hb3).below hb3a
      have hK3 := At.new 23 w3 #[.int .i64 ka, .int .i64 kn, .int .i64 ks, .int .i64 ke]
      have gG2 := rGet_any p n c ys (w3.alloc (.cells #[.int .i64 ka, .int .i64 kn, .int .i64 ks, .int .i64 ke] 23)) hr3 hy (by omega)
      rw [HG.out] at gG2
      unfold getV at gG2
      dsimp only at gG2
      clear gG hC2 hr2 HB2 HB3 hb3 hb3a hp2 hq2
      go_wp2_with fail
      generalize hgk : w3.heap.size = gk at *
      generalize (w3.alloc (.cells #[.int .i64 ka, .int .i64 kn, .int .i64 ks, .int .i64 ke] 23)) = w3a at *
      refine gG2.mono ?_
      rintro r w4 ⟨rfl, hb4⟩
      have hb4a := below_alloc w4 (.cells #[.int .i64 ka, .int .i64 kn, .int .i64 ks, .int .i64 ke] 23)
      have HB4 := HB3a.trans (hb4.mono HB3a.size)
      have HB4a := HB4.trans (hb4a.mono HB4.size)
      have hC4 := (hC3.below hb4).below hb4a
      have hr4 := (hr3.below hb4).below hb4a
      have hK4 := (hK3.below hb4).below hb4a
      have hp4 := (hp3.below hb4).below hb4a
      have hq4 := (hq3.below hb4).below hb4a
      have hM4 := At.new 23 w4 #[.int .i64 ka, .int .i64 kn, .int .i64 ks, .int .i64 ke]
      clear gG2 hC3 hr3 HB3a HB4 hb4 hb4a hK3 hp3 hq3
      go_wp2_with fail
      generalize hgm : w4.heap.size = gm at *
      generalize (w4.alloc (.cells #[.int .i64 ka, .int .i64 kn, .int .i64 ks, .int .i64 ke] 23)) = w5 at *
      obtain ⟨c0, c1, c2, c3⟩ := hC4.four
      obtain ⟨k0, k1, k2, k3⟩ := hK4.four
      obtain ⟨m0, m1, m2, m3⟩ := hM4.four
      have rc0 := cell_regrown c0
      have rc1 := cell_regrown c1
      have rc2 := cell_regrown c2
      have rc3 := cell_regrown c3
      have rk0 := cell_regrown k0
      have rk1 := cell_regrown k1
      have rk2 := cell_regrown k2
      have rk3 := cell_regrown k3
      have rm0 := cell_regrown m0
      have rm1 := cell_regrown m1
      have rm2 := cell_regrown m2
      have rm3 := cell_regrown m3
      have e1 := fun d os => Calls.regrown_of (lCheck_any xk xn xs xe (Sort.grow (redrawn w5 d) os))
      have e2 := fun d os => Calls.regrown_of (rCheck_any xk xn xs xe (Sort.grow (redrawn w5 d) os))
      generalize cmdV (cmdOk xk xn xs xe) = cv at e1 e2
      have e3 := fun d os => Calls.regrown_of (equal_sameB p1 p2 L.length d1 L.length d2 L _ (hp4.below (below_regrown w5 d os)) (hq4.below (below_regrown w5 d os)) hLb)
      have hcv : (cv != cv) = false := by simp
      have neqC := neqC_same
      clear c0 c1 c2 c3 k0 k1 k2 k3 m0 m1 m2 m3
      refine wp_region_quiet_below (by kernel_rfl) (by kernel_rfl) ?_
      repeat (quiet_step (first | (go_at_call 13; exact e1 _ _) | (go_at_call 14; exact e2 _ _) | (go_at_call 15; exact e3 _ _)))
      refine wpQuiet_nil ?_
      intro _ hw'
      obtain ⟨⟨dq, osq⟩, hw''⟩ := hw'
      subst hw''
      have hbq := below_regrown w5 dq osq
      have HB6 := HB4a.trans (hbq.mono HB4a.size)
      have hC6 := hC4.below hbq
      have hr6 := hr4.below hbq
      have hK6 := hK4.below hbq
      have hp6 := hp4.below hbq
      clear e1 e2 e3 hC4 hr4 hK4 hM4 HB4a hbq rc0 rc1 rc2 rc3 rk0 rk1 rk2 rk3 rm0 rm1 rm2 rm3 hp4 hq4
      generalize Sort.grow (redrawn w5 dq) osq = w6 at *
      have gB := Get_any p1 L.length d1 L w6 hp6 hLb hLl
      rw [HGL.out] at gB
      unfold getV at gB
      dsimp only at gB
      go_wp2_with fail
      refine gB.mono ?_
      rintro r w7 ⟨rfl, hb7⟩
      have hb7a := below_alloc w7 (.cells #[.int .i64 xk, .int .i64 xn, .int .i64 xs, .int .i64 xe] 23)
      have HB7 := HB6.trans (hb7.mono HB6.size)
      have HB8 := HB7.trans (hb7a.mono HB7.size)
      have hC8 := (hC6.below hb7).below hb7a
      have hr8 := (hr6.below hb7).below hb7a
      have hK8 := (hK6.below hb7).below hb7a
      have hN8 := At.new 23 w7 #[.int .i64 xk, .int .i64 xn, .int .i64 xs, .int .i64 xe]
      obtain ⟨c0, c1, c2, c3⟩ := hC8.four
      obtain ⟨b0, b1, b2, b3⟩ := hN8.four
      clear gB hC6 hr6 hK6 hp6 HB6 HB7 hb7 hb7a
      obtain ⟨k0, k1, k2, k3⟩ := hK8.four
      go_wp2_with fail
      clear c0 c1 c2 c3 b0 b1 b2 b3 hN8 hC8
      generalize (w7.alloc (.cells #[.int .i64 xk, .int .i64 xn, .int .i64 xs, .int .i64 xe] 23)) = w8 at *
      have gR := lPut_ok ka kn ks ke w8 hkk
      rw [hput.out] at gR
      refine gR.mono ?_
      rintro r w9 ⟨v, rfl, p9, d9, rfl, ho9, hb9⟩
      have HB9 := HB8.trans (hb9.mono HB8.size)
      have hr9 := hr8.below hb9
      have gE := equal_sameB p9 p ys.length d9 n c ys w9 ho9.rd hr9 hy
      clear gR hr8 HB8 hK8 hb9 ho9 k0 k1 k2 k3
      go_wp2_with fail
      refine gE.mono ?_
      rintro r w10 ⟨rfl, hb10⟩
      have HB10 := HB9.trans (hb10.mono HB9.size)
      clear gE hr9 HB9 hb10
      go_wp2_with fail
      refine (hW _).mono ?_
      rintro o wz ⟨rfl, hbz⟩
      go_wp2_with fail
      go_ret
      exact ⟨rfl, HB10.trans (hbz.mono HB10.size)⟩
  | false =>
    match R, HG, hform with
    | none, HG, _ =>
      have gP := lPut_no xk xn xs xe (w.alloc (.cells #[.int .i64 xk, .int .i64 xn, .int .i64 xs, .int .i64 xe] 23)) hC
      have gQ := fun W => rPut_no xk xn xs xe W hC
      obtain ⟨c0, c1, c2, c3⟩ := hC0.four
      go_enter Try.func3, Try.ntmps3
      go_wp2_with fail
      refine gP.mono ?_
      rintro r w1 ⟨rfl, hb1⟩
      have HB1 := hB0.trans (hb1.mono hB0.size)
      have hC1 := hC0.below hb1
      have hr1 := hr0.below hb1
      clear gP c0 c1 c2 c3 hC0 hr0 hB0 hb1
      obtain ⟨c0, c1, c2, c3⟩ := hC1.four
      go_wp2_with fail
      refine (gQ w1).mono ?_
      rintro r w2 ⟨rfl, hb2⟩
      have HB2 := HB1.trans (hb2.mono HB1.size)
      have hC2 := hC1.below hb2
      have hr2 := hr1.below hb2
      have gG := Get_any p n c ys w2 hr2 hy (by omega)
      rw [HG.out] at gG
      unfold getV at gG
      dsimp only at gG
      clear gQ c0 c1 c2 c3 hC1 hr1 HB1 hb2
      go_wp2_with fail
      refine gG.mono ?_
      rintro r w3 ⟨rfl, hb3⟩
      have hb3a := below_alloc w3 (.cells #[.int .i64 0, .int .i64 0, .int .i64 0, .int .i64 0] 23)
      have HB3 := HB2.trans (hb3.mono HB2.size)
      have HB3a := HB3.trans (hb3a.mono HB3.size)
      have hC3 := (hC2.below hb3).below hb3a
      have hr3 := (hr2.below hb3).below hb3a
      have hK3 := At.new 23 w3 #[.int .i64 0, .int .i64 0, .int .i64 0, .int .i64 0]
      have gG2 := rGet_any p n c ys (w3.alloc (.cells #[.int .i64 0, .int .i64 0, .int .i64 0, .int .i64 0] 23)) hr3 hy (by omega)
      rw [HG.out] at gG2
      unfold getV at gG2
      dsimp only at gG2
      clear gG hC2 hr2 HB2 HB3 hb3 hb3a
      go_wp2_with fail
      generalize hgk : w3.heap.size = gk at *
      generalize (w3.alloc (.cells #[.int .i64 0, .int .i64 0, .int .i64 0, .int .i64 0] 23)) = w3a at *
      refine gG2.mono ?_
      rintro r w4 ⟨rfl, hb4⟩
      have hb4a := below_alloc w4 (.cells #[.int .i64 0, .int .i64 0, .int .i64 0, .int .i64 0] 23)
      have HB4 := HB3a.trans (hb4.mono HB3a.size)
      have HB4a := HB4.trans (hb4a.mono HB4.size)
      have hC4 := (hC3.below hb4).below hb4a
      have hr4 := (hr3.below hb4).below hb4a
      have hK4 := (hK3.below hb4).below hb4a
      have hM4 := At.new 23 w4 #[.int .i64 0, .int .i64 0, .int .i64 0, .int .i64 0]
      clear gG2 hC3 hr3 HB3a HB4 hb4 hb4a hK3
      go_wp2_with fail
      generalize hgm : w4.heap.size = gm at *
      generalize (w4.alloc (.cells #[.int .i64 0, .int .i64 0, .int .i64 0, .int .i64 0] 23)) = w5 at *
      obtain ⟨c0, c1, c2, c3⟩ := hC4.four
      obtain ⟨k0, k1, k2, k3⟩ := hK4.four
      obtain ⟨m0, m1, m2, m3⟩ := hM4.four
      have rc0 := cell_regrown c0
      have rc1 := cell_regrown c1
      have rc2 := cell_regrown c2
      have rc3 := cell_regrown c3
      have rk0 := cell_regrown k0
      have rk1 := cell_regrown k1
      have rk2 := cell_regrown k2
      have rk3 := cell_regrown k3
      have rm0 := cell_regrown m0
      have rm1 := cell_regrown m1
      have rm2 := cell_regrown m2
      have rm3 := cell_regrown m3
      have e1 := fun d os => Calls.regrown_of (lCheck_any xk xn xs xe (Sort.grow (redrawn w5 d) os))
      have e2 := fun d os => Calls.regrown_of (rCheck_any xk xn xs xe (Sort.grow (redrawn w5 d) os))
      generalize cmdV (cmdOk xk xn xs xe) = cv at e1 e2
      have e3 := fun d os => Calls.regrown_of (equal_sameB none none 0 0 0 0 [] (Sort.grow (redrawn w5 d) os) (Rd.empty _ _ _ _ (fun _ => rfl)) (Rd.empty _ _ _ _ (fun _ => rfl)) By.nil)
      have hcv : (cv != cv) = false := by simp
      have neqC := neqC_same
      clear c0 c1 c2 c3 k0 k1 k2 k3 m0 m1 m2 m3
      refine wp_region_quiet_below (by kernel_rfl) (by kernel_rfl) ?_
      repeat (quiet_step (first | (go_at_call 13; exact e1 _ _) | (go_at_call 14; exact e2 _ _) | (go_at_call 15; exact e3 _ _)))
      refine wpQuiet_nil ?_
      intro _ hw'
      obtain ⟨⟨dq, osq⟩, hw''⟩ := hw'
      subst hw''
      have hbq := below_regrown w5 dq osq
      have HB6 := HB4a.trans (hbq.mono HB4a.size)
      have hC6 := hC4.below hbq
      have hr6 := hr4.below hbq
      have hK6 := hK4.below hbq
      clear e1 e2 e3 hC4 hr4 hK4 hM4 HB4a hbq rc0 rc1 rc2 rc3 rk0 rk1 rk2 rk3 rm0 rm1 rm2 rm3
      generalize Sort.grow (redrawn w5 dq) osq = w6 at *
      go_wp2_with fail
      refine (hW _).mono ?_
      rintro o wz ⟨rfl, hbz⟩
      go_wp2_with fail
      go_ret
      exact ⟨rfl, HB6.trans (hbz.mono HB6.size)⟩
    | some (ka, kn, ks, ke), HG, hform =>
      obtain ⟨hkk, hpu⟩ := hform ka kn ks ke rfl
      have hput : Hid (putAll [ka, kn, ks, ke] = ys) := hpu
      clear hpu hform
      have gP := lPut_no xk xn xs xe (w.alloc (.cells #[.int .i64 xk, .int .i64 xn, .int .i64 xs, .int .i64 xe] 23)) hC
      have gQ := fun W => rPut_no xk xn xs xe W hC
      obtain ⟨c0, c1, c2, c3⟩ := hC0.four
      go_enter Try.func3, Try.ntmps3
      go_wp2_with fail
      refine gP.mono ?_
      rintro r w1 ⟨rfl, hb1⟩
      have HB1 := hB0.trans (hb1.mono hB0.size)
      have hC1 := hC0.below hb1
      have hr1 := hr0.below hb1
      clear gP c0 c1 c2 c3 hC0 hr0 hB0 hb1
      obtain ⟨c0, c1, c2, c3⟩ := hC1.four
      go_wp2_with fail
      refine (gQ w1).mono ?_
      rintro r w2 ⟨rfl, hb2⟩
      have HB2 := HB1.trans (hb2.mono HB1.size)
      have hC2 := hC1.below hb2
      have hr2 := hr1.below hb2
      have gG := Get_any p n c ys w2 hr2 hy (by omega)
      rw [HG.out] at gG
      unfold getV at gG
      dsimp only at gG
      clear gQ c0 c1 c2 c3 hC1 hr1 HB1 hb2
      go_wp2_with fail
      refine gG.mono ?_
      rintro r w3 ⟨rfl, hb3⟩
      have hb3a := below_alloc w3 (.cells #[.int .i64 ka, .int .i64 kn, .int .i64 ks, .int .i64 ke] 23)
      have HB3 := HB2.trans (hb3.mono HB2.size)
      have HB3a := HB3.trans (hb3a.mono HB3.size)
      have hC3 := (hC2.below hb3).below hb3a
      have hr3 := (hr2.below hb3).below hb3a
      have hK3 := At.new 23 w3 #[.int .i64 ka, .int .i64 kn, .int .i64 ks, .int .i64 ke]
      have gG2 := rGet_any p n c ys (w3.alloc (.cells #[.int .i64 ka, .int .i64 kn, .int .i64 ks, .int .i64 ke] 23)) hr3 hy (by omega)
      rw [HG.out] at gG2
      unfold getV at gG2
      dsimp only at gG2
      clear gG hC2 hr2 HB2 HB3 hb3 hb3a
      go_wp2_with fail
      generalize hgk : w3.heap.size = gk at *
      generalize (w3.alloc (.cells #[.int .i64 ka, .int .i64 kn, .int .i64 ks, .int .i64 ke] 23)) = w3a at *
      refine gG2.mono ?_
      rintro r w4 ⟨rfl, hb4⟩
      have hb4a := below_alloc w4 (.cells #[.int .i64 ka, .int .i64 kn, .int .i64 ks, .int .i64 ke] 23)
      have HB4 := HB3a.trans (hb4.mono HB3a.size)
      have HB4a := HB4.trans (hb4a.mono HB4.size)
      have hC4 := (hC3.below hb4).below hb4a
      have hr4 := (hr3.below hb4).below hb4a
      have hK4 := (hK3.below hb4).below hb4a
      have hM4 := At.new 23 w4 #[.int .i64 ka, .int .i64 kn, .int .i64 ks, .int .i64 ke]
      clear gG2 hC3 hr3 HB3a HB4 hb4 hb4a hK3
      go_wp2_with fail
      generalize hgm : w4.heap.size = gm at *
      generalize (w4.alloc (.cells #[.int .i64 ka, .int .i64 kn, .int .i64 ks, .int .i64 ke] 23)) = w5 at *
      obtain ⟨c0, c1, c2, c3⟩ := hC4.four
      obtain ⟨k0, k1, k2, k3⟩ := hK4.four
      obtain ⟨m0, m1, m2, m3⟩ := hM4.four
      have rc0 := cell_regrown c0
      have rc1 := cell_regrown c1
      have rc2 := cell_regrown c2
      have rc3 := cell_regrown c3
      have rk0 := cell_regrown k0
      have rk1 := cell_regrown k1
      have rk2 := cell_regrown k2
      have rk3 := cell_regrown k3
      have rm0 := cell_regrown m0
      have rm1 := cell_regrown m1
      have rm2 := cell_regrown m2
      have rm3 := cell_regrown m3
      have e1 := fun d os => Calls.regrown_of (lCheck_any xk xn xs xe (Sort.grow (redrawn w5 d) os))
      have e2 := fun d os => Calls.regrown_of (rCheck_any xk xn xs xe (Sort.grow (redrawn w5 d) os))
      generalize cmdV (cmdOk xk xn xs xe) = cv at e1 e2
      have e3 := fun d os => Calls.regrown_of (equal_sameB none none 0 0 0 0 [] (Sort.grow (redrawn w5 d) os) (Rd.empty _ _ _ _ (fun _ => rfl)) (Rd.empty _ _ _ _ (fun _ => rfl)) By.nil)
      have hcv : (cv != cv) = false := by simp
      have neqC := neqC_same
      clear c0 c1 c2 c3 k0 k1 k2 k3 m0 m1 m2 m3
      refine wp_region_quiet_below (by kernel_rfl) (by kernel_rfl) ?_
      repeat (quiet_step (first | (go_at_call 13; exact e1 _ _) | (go_at_call 14; exact e2 _ _) | (go_at_call 15; exact e3 _ _)))
      refine wpQuiet_nil ?_
      intro _ hw'
      obtain ⟨⟨dq, osq⟩, hw''⟩ := hw'
      subst hw''
      have hbq := below_regrown w5 dq osq
      have HB6 := HB4a.trans (hbq.mono HB4a.size)
      have hC6 := hC4.below hbq
      have hr6 := hr4.below hbq
      have hK6 := hK4.below hbq
      clear e1 e2 e3 hC4 hr4 hK4 hM4 HB4a hbq rc0 rc1 rc2 rc3 rk0 rk1 rk2 rk3 rm0 rm1 rm2 rm3
      generalize Sort.grow (redrawn w5 dq) osq = w6 at *
      obtain ⟨k0, k1, k2, k3⟩ := hK6.four
      have gR := lPut_ok ka kn ks ke w6 hkk
      rw [hput.out] at gR
      go_wp2_with fail
      refine gR.mono ?_
      rintro r w9 ⟨v, rfl, p9, d9, rfl, ho9, hb9⟩
      have HB9 := HB6.trans (hb9.mono HB6.size)
      have hr9 := hr6.below hb9
      have gE := equal_sameB p9 p ys.length d9 n c ys w9 ho9.rd hr9 hy
      clear gR hr6 HB6 hK6 hb9 ho9 k0 k1 k2 k3
      go_wp2_with fail
      refine gE.mono ?_
      rintro r w10 ⟨rfl, hb10⟩
      have HB10 := HB9.trans (hb10.mono HB9.size)
      clear gE hr9 HB9 hb10
      go_wp2_with fail
      refine (hW _).mono ?_
      rintro o wz ⟨rfl, hbz⟩
      go_wp2_with fail
      go_ret
      exact ⟨rfl, HB10.trans (hbz.mono HB10.size)⟩

end Go.Proofs.Ytcnkpgbmegppbaa.M
