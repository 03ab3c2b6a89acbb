/-
  Own text: members sorted by sites: contracts of cmp.Compare, of First's comparison, of the library's insertion sort.
-/
import Derived.Test.YtcnkpgbmegppbaaYRow
import Derived.Lib.QuietBelow
import Derived.BigRegion
namespace Go.Proofs.Ytcnkpgbmegppbaa.M
open Go.ChangeShapes Go.WideShapes Go.ChangeAt Go.RowKit

set_option maxRecDepth 20000 in
theorem isNaN_any (x : Int) (w : World) : Calls Try.prog 76 #[.int .i64 x] w fun e w' => e = .returned (.bool false) ∧ w' = w := by
  go_enter Try.func76, Try.ntmps76
  go_wp2
  go_ret
  exact ⟨rfl, rfl⟩

/-- What a comparison tells. -/
def cmpI (x y : Int) : Int := if x < y then -1 else if y < x then 1 else 0

set_option maxRecDepth 20000 in
theorem compare_any (x y : Int) (w : World) : Calls Try.prog 67 #[.int .i64 x, .int .i64 y] w fun e w' => e = .returned (.int .i64 (cmpI x y)) ∧ w' = w := by
  have hx := fun W => isNaN_any x W
  have hy := fun W => isNaN_any y W
  have HC : Hid (cmpI x y = if x < y then -1 else if y < x then 1 else 0) := rfl
  generalize cmpI x y = z at *
  go_enter Try.func67, Try.ntmps67
  go_wp2_with fail
  refine (hx _).mono ?_
  rintro r w1 ⟨rfl, rfl⟩
  go_wp2_with fail
  refine (hy _).mono ?_
  rintro r w2 ⟨rfl, rfl⟩
  by_cases h1 : x < y
  · have HN : Hid (z = -1) := by unfold Hid; rw [HC.out, if_pos h1]
    clear HC
    go_wp2_with fail
    go_ret
    exact ⟨ret_int HN.out.symm, rfl⟩
  · by_cases h2 : y < x
    · have HN : Hid (z = 1) := by unfold Hid; rw [HC.out, if_neg h1, if_pos h2]
      clear HC
      go_wp2_with fail
      go_ret
      exact ⟨ret_int HN.out.symm, rfl⟩
    · have HN : Hid (z = 0) := by unfold Hid; rw [HC.out, if_neg h1, if_neg h2]
      clear HC
      go_wp2_with fail
      go_ret
      exact ⟨ret_int HN.out.symm, rfl⟩

set_option maxRecDepth 20000 in
theorem bySite_any (a b : Mb) (w : World) : Calls Try.prog 66 #[.agg #[.int .i64 a.n, .int .i64 a.s, .bool a.f], .agg #[.int .i64 b.n, .int .i64 b.s, .bool b.f]] w fun e w' => e = .returned (.int .i64 (cmpI a.s b.s)) ∧ Below w.heap.size w w' := by
  have hC := fun W => compare_any a.s b.s W
  obtain ⟨an, aq, af⟩ := a
  obtain ⟨bn, bq, bf⟩ := b
  dsimp only at hC ⊢
  generalize cmpI aq bq = z at *
  have hb0 : Below w.heap.size w ((w.alloc (.cells #[.int .i64 an, .int .i64 aq, .bool af] 48)).alloc (.cells #[.int .i64 bn, .int .i64 bq, .bool bf] 48)) := ((Below.refl _ _).alloc (Nat.le_refl _) _).alloc (by simp) _
  go_enter Try.func66, Try.ntmps66
  go_wp2_with fail
  refine (hC _).mono ?_
  rintro r w1 ⟨rfl, rfl⟩
  go_wp2_with fail
  go_ret
  exact ⟨rfl, hb0⟩

/-- All that lay in w, but for block g, lies as it did. -/
structure Ex (g : Nat) (w w' : World) : Prop where
  os : w'.os = w.os
  tape : w'.tape = w.tape
  output : w'.output = w.output
  size : w.heap.size ≤ w'.heap.size
  block : ∀ k, k < w.heap.size → k ≠ g → w'.heap[k]? = w.heap[k]?

theorem Ex.refl (g : Nat) (w : World) : Ex g w w := ⟨rfl, rfl, rfl, Nat.le_refl _, fun _ _ _ => rfl⟩

theorem Ex.trans {g : Nat} {a b c : World} (h : Ex g a b) (k : Ex g b c) : Ex g a c :=
  ⟨k.os.trans h.os, k.tape.trans h.tape, k.output.trans h.output, Nat.le_trans h.size k.size, fun i hi hg => (k.block i (Nat.lt_of_lt_of_le hi h.size) hg).trans (h.block i hi hg)⟩

theorem Ex.of_below {g : Nat} {w w' : World} (h : Below w.heap.size w w') : Ex g w w' := ⟨h.os, h.tape, h.output, h.size, fun k hk _ => h.block k hk⟩

theorem Ex.drew {g : Nat} {w w' : World} (h : Ex g w w') : Ex g w w'.drew := ⟨h.os, h.tape, h.output, h.size, h.block⟩

theorem Ex.drewN {g : Nat} {w w' : World} (h : Ex g w w') (n : Nat) : Ex g w (w'.drewN n) := ⟨h.os, h.tape, h.output, h.size, h.block⟩

theorem Ex.setCell {g : Nat} {w w' : World} (h : Ex g w w') (j : Nat) (v : Value) : Ex g w (w'.setCell ⟨g, j, none⟩ v) := by
  refine ⟨h.os, h.tape, h.output, by simpa using h.size, fun k hk hg => ?_⟩
  rw [← h.block k hk hg]
  simp only [World.setCell, Array.getElem?_modify]
  rw [if_neg (fun e => hg e.symm)]

theorem Ex.setC {g : Nat} {w : World} : ∀ (vs : List Value) (o : Nat) (w' : World), Ex g w w' → Ex g w (w'.setCells g o vs)
  | [], _, _, h => h
  | v :: r, o, w', h => by rw [World.setCells]; exact Ex.setC r _ _ (h.setCell o v)

theorem Ex.below {g B : Nat} {w w' : World} (h : Ex g w w') (hB : B ≤ g) (hg : g < w.heap.size) : Below B w w' :=
  ⟨h.os, h.tape, h.output, h.size, fun k hk => h.block k (by omega) (by omega)⟩

/-- Two neighbours change places. -/
def swp (L : List Mb) (j : Nat) : List Mb := (L.set (j + 1) (L.getD j .z0)).set j (L.getD (j + 1) .z0)

theorem swp_len (L : List Mb) (j : Nat) : (swp L j).length = L.length := by simp [swp]

/-- One member goes ahead as long as its site is below that of the one ahead, down to a. -/
def innS (a : Nat) : Nat → List Mb → List Mb
  | 0, L => L
  | j + 1, L => if a < j + 1 ∧ (L.getD (j + 1) .z0).s < (L.getD j .z0).s then innS a j (swp L j) else L

theorem innS_len (a : Nat) : ∀ (j : Nat) (L : List Mb), (innS a j L).length = L.length
  | 0, _ => rfl
  | j + 1, L => by
    unfold innS
    split
    · rw [innS_len a j, swp_len]
    · rfl

/-- So many members, from the i-th on, each go ahead. -/
def outS (a : Nat) : Nat → Nat → List Mb → List Mb
  | 0, _, L => L
  | k + 1, i, L => outS a k (i + 1) (innS a i L)

theorem outS_len (a : Nat) : ∀ (k i : Nat) (L : List Mb), (outS a k i L).length = L.length
  | 0, _, _ => rfl
  | k + 1, i, L => by
    unfold outS
    rw [outS_len a k, innS_len]

theorem cfBy : Cf 66 := fun args w => cf_of Try.func66 (by kernel_rfl) (by kernel_rfl) args w

set_option maxRecDepth 20000 in
set_option maxHeartbeats 2000000 in
theorem insertion_any (w : World) (g N : Nat) (L : List Mb) (a b : Nat) (hR : Row w g N L) (hab : a ≤ b) (hbn : b ≤ L.length) (hn : L.length ≤ 1099511627776) :
    Calls Try.prog 84 #[.slice (some ⟨g, 0, none⟩) L.length N, .int .i64 a, .int .i64 b, .func (.func 66) #[] #[]] w fun e w' => e = .returned (.tuple #[]) ∧ Row w' g N (outS a (b - (a + 1)) (a + 1) L) ∧ Ex g w w' := by
  have hNl := hR.le
  generalize hn0 : L.length = n at *
  go_enter Try.func84, Try.ntmps84
  go_wp2_with fail
  go_loopw [8] (fun i wr => ∃ (k : Nat) (M : List Mb), a + 1 ≤ k ∧ (k ≤ b ∨ k = a + 1) ∧ i = .int .i64 k ∧ M.length = n ∧ Hid (outS a (b - (a + 1)) (a + 1) L = outS a (b - k) k M) ∧ Row wr g N M ∧ Ex g w wr) (fun i _ => b - (intOf i).toNat)
  case atStart => exact ⟨a + 1, L, Nat.le_refl _, Or.inr rfl, by go_num, hn0, rfl, hR, Ex.refl _ _⟩
  case round =>
    clear hR
    obtain ⟨k, M, hk1, hk2, rfl, hM, HO, hR, hb⟩ := hrel
    by_cases h : k < b
    · have hkb : (k : Int) < (b : Int) := by omega
      have HO2 : Hid (outS a (b - (a + 1)) (a + 1) L = outS a (b - (k + 1)) (k + 1) (innS a k M)) := by
        unfold Hid; rw [HO.out, show b - k = (b - (k + 1)) + 1 by omega]; rfl
      clear HO
      have hk3 : k < n := by omega
      generalize hIN : innS a k M = IN at HO2
      have HI0 : Hid (innS a k M = IN) := hIN
      clear hIN
      go_wp2_with fail
      obtain ⟨w5, hw5⟩ : ∃ x, x = wr := ⟨wr, rfl⟩
      go_loopw [9] (fun j wr => ∃ (i : Nat) (M : List Mb), a ≤ i ∧ i ≤ k ∧ j = .int .i64 i ∧ M.length = n ∧ Hid (innS a i M = IN) ∧ Row wr g N M ∧ Ex g w wr) (fun j _ => (intOf j).toNat)
      case atStart => exact ⟨k, M, by omega, Nat.le_refl _, rfl, hM, HI0, hR, hb⟩
      case round =>
        clear hR hb HI0 hM hw5 w5 M
        obtain ⟨i, M, hi1, hi2, rfl, hM, HI, hR, hb⟩ := hrel
        by_cases hia : a < i
        · obtain ⟨j, rfl⟩ : ∃ j, i = j + 1 := ⟨i - 1, by omega⟩
          obtain ⟨x1, x2, x3⟩ := hR.at (i := j + 1) (by omega)
          obtain ⟨y1, y2, y3⟩ := hR.at (i := j) (by omega)
          have hHI := HI.out
          have hba : decide ((a : Int) < (j : Int) + 1) = true := decide_eq_true (by omega)
          have hjn : (j : Int) + 1 < (n : Int) := by omega
          have hjn1 : (j : Int) < (n : Int) := by omega
          have p0 : (0 : Int) ≤ (j : Int) + 1 := by omega
          have e0 : ((j : Int) + 1).toNat = j + 1 := by omega
          have hwp : IntKind.i64.wrap (j : Int) = (j : Int) := by rw [IntKind.wrap_i64]; omega
          have hC := fun W => bySite_any (M.getD (j + 1) .z0) (M.getD j .z0) W
          unfold innS at hHI
          have HI2 : Hid ((if a < j + 1 ∧ (M.getD (j + 1) .z0).s < (M.getD j .z0).s then innS a j (swp M j) else M) = IN) := hHI
          clear hHI HI
          have HS : Hid (swp M j = (M.set (j + 1) (M.getD j .z0)).set j (M.getD (j + 1) .z0)) := rfl
          generalize M.getD (j + 1) .z0 = X at *
          generalize M.getD j .z0 = Y at *
          obtain ⟨Xn, Xs, Xf⟩ := X
          obtain ⟨Yn, Ys, Yf⟩ := Y
          dsimp only at x1 x2 x3 y1 y2 y3 hC HI2
          have k1 := cell_regrown x1
          have k2 := cell_regrown x2
          have k3 := cell_regrown x3
          have l1 := cell_regrown y1
          have l2 := cell_regrown y2
          have l3 := cell_regrown y3
          have hlt := hR.lt
          by_cases hlv : Xs < Ys
          · have hcz : cmpI Xs Ys = -1 := by unfold cmpI; rw [if_pos hlv]
            have cC : ∀ d os, Calls Try.prog 66 #[.agg #[.int .i64 Xn, .int .i64 Xs, .bool Xf], .agg #[.int .i64 Yn, .int .i64 Ys, .bool Yf]] (Sort.grow (redrawn wr d) os) fun e w'' => e = .returned (.int .i64 (-1)) ∧ ∃ p : Regrown, w'' = Sort.grow (redrawn wr p.d) p.os := fun d os => Calls.regrown_of (by rw [← hcz]; exact hC _)
            have HI3 : Hid (innS a j (swp M j) = IN) := by
              have := HI2.out
              rwa [if_pos ⟨by omega, hlv⟩] at this
            clear HI2 hC hcz
            go_wp2_with fail
            refine wp_region_quiet_below (by kernel_rfl) (by kernel_rfl) ?_
            repeat (quiet_step (first | exact cC _ _))
            refine wpQuiet_nil ?_
            intro _ hw'
            obtain ⟨⟨dq, osq⟩, hw''⟩ := hw'
            subst hw''
            have hbq := below_regrown wr dq osq
            have hR2 := hR.up hbq
            go_wp2_with fail
            replace x1 := k1 dq osq
            replace x2 := k2 dq osq
            replace x3 := k3 dq osq
            replace y1 := l1 dq osq
            replace y2 := l2 dq osq
            replace y3 := l3 dq osq
            have hb2 := hb.trans (Ex.of_below (g := g) hbq)
            clear k1 k2 k3 l1 l2 l3 cC hbq hR hb
            generalize Sort.grow (redrawn wr dq) osq = W2 at *
            have f1 : W2.frozen? ⟨g, (j + 1) * 3, none⟩ = false := (hR2.thereAt (i := j + 1) (by omega) 0 (by decide)).2
            have f2 : W2.frozen? ⟨g, (j + 1) * 3 + 1, none⟩ = false := (hR2.thereAt (i := j + 1) (by omega) 1 (by decide)).2
            have f3 : W2.frozen? ⟨g, (j + 1) * 3 + 2, none⟩ = false := (hR2.thereAt (i := j + 1) (by omega) 2 (by decide)).2
            have f4 : W2.frozen? ⟨g, j * 3, none⟩ = false := (hR2.thereAt (i := j) (by omega) 0 (by decide)).2
            have f5 : W2.frozen? ⟨g, j * 3 + 1, none⟩ = false := (hR2.thereAt (i := j) (by omega) 1 (by decide)).2
            have f6 : W2.frozen? ⟨g, j * 3 + 2, none⟩ = false := (hR2.thereAt (i := j) (by omega) 2 (by decide)).2
            have hR3 : Row ((((((W2.setCell ⟨g, (j + 1) * 3, none⟩ (.int .i64 Yn)).setCell ⟨g, (j + 1) * 3 + 1, none⟩ (.int .i64 Ys)).setCell ⟨g, (j + 1) * 3 + 2, none⟩ (.bool Yf)).setCell ⟨g, j * 3, none⟩ (.int .i64 Xn)).setCell ⟨g, j * 3 + 1, none⟩ (.int .i64 Xs)).setCell ⟨g, j * 3 + 2, none⟩ (.bool Xf)) g N (swp M j) := by
              rw [HS.out]
              exact (hR2.set (i := j + 1) (by omega) ⟨Yn, Ys, Yf⟩).set (i := j) (by rw [List.length_set]; omega) ⟨Xn, Xs, Xf⟩
            have hb3 : Ex g w ((((((W2.setCell ⟨g, (j + 1) * 3, none⟩ (.int .i64 Yn)).setCell ⟨g, (j + 1) * 3 + 1, none⟩ (.int .i64 Ys)).setCell ⟨g, (j + 1) * 3 + 2, none⟩ (.bool Yf)).setCell ⟨g, j * 3, none⟩ (.int .i64 Xn)).setCell ⟨g, j * 3 + 1, none⟩ (.int .i64 Xs)).setCell ⟨g, j * 3 + 2, none⟩ (.bool Xf)) :=
              Ex.setC (Mb.cs ⟨Xn, Xs, Xf⟩) (j * 3) _ (Ex.setC (Mb.cs ⟨Yn, Ys, Yf⟩) ((j + 1) * 3) _ hb2)
            go_region
            generalize ((((((W2.setCell ⟨g, (j + 1) * 3, none⟩ (.int .i64 Yn)).setCell ⟨g, (j + 1) * 3 + 1, none⟩ (.int .i64 Ys)).setCell ⟨g, (j + 1) * 3 + 2, none⟩ (.bool Yf)).setCell ⟨g, j * 3, none⟩ (.int .i64 Xn)).setCell ⟨g, j * 3 + 1, none⟩ (.int .i64 Xs)).setCell ⟨g, j * 3 + 2, none⟩ (.bool Xf)) = W3 at *
            go_wp2_with fail
            go_roundw
            case rel => exact ⟨j, swp M j, by omega, by omega, by go_num, by rw [swp_len]; exact hM, HI3, hR3.up ((Below.refl _ _).drew), hb3.drew⟩
            case measure => simp [intOf]
          · have hcz : ∃ z : Int, 0 ≤ z ∧ cmpI Xs Ys = z := by
              refine ⟨_, ?_, rfl⟩
              unfold cmpI
              rw [if_neg hlv]
              split <;> omega
            obtain ⟨z, hz0, hcz⟩ := hcz
            have hzd : decide (z < 0) = false := decide_eq_false (by omega)
            have cC : ∀ d os, Calls Try.prog 66 #[.agg #[.int .i64 Xn, .int .i64 Xs, .bool Xf], .agg #[.int .i64 Yn, .int .i64 Ys, .bool Yf]] (Sort.grow (redrawn wr d) os) fun e w'' => e = .returned (.int .i64 z) ∧ ∃ p : Regrown, w'' = Sort.grow (redrawn wr p.d) p.os := fun d os => Calls.regrown_of (by rw [← hcz]; exact hC _)
            have HN : Hid (M = IN) := by
              have := HI2.out
              rwa [if_neg (fun h => hlv h.2)] at this
            clear HI2 hC hcz
            go_wp2_with fail
            refine wp_region_quiet_below (by kernel_rfl) (by kernel_rfl) ?_
            repeat (quiet_step (first | exact cC _ _))
            refine wpQuiet_nil ?_
            intro _ hw'
            obtain ⟨⟨dq, osq⟩, hw''⟩ := hw'
            subst hw''
            have hbq := below_regrown wr dq osq
            have hR2 := hR.up hbq
            have hb2 := hb.trans (Ex.of_below (g := g) hbq)
            clear k1 k2 k3 l1 l2 l3 cC hbq hR hb
            generalize Sort.grow (redrawn wr dq) osq = W2 at *
            go_wp2_with fail
            go_roundw
            case rel => exact ⟨k + 1, M, by omega, Or.inl (by omega), by go_num, hM, by unfold Hid; rw [HO2.out, ← HN.out], hR2, hb2⟩
            case measure => simp [intOf]; omega
        · obtain rfl : i = a := by omega
          have hdz : decide ((i : Int) < (i : Int)) = false := decide_eq_false (by omega)
          have HN : Hid (M = IN) := by
            have := HI.out
            cases i with
            | zero => exact this
            | succ j =>
              unfold innS at this
              rwa [if_neg (fun h => Nat.lt_irrefl _ h.1)] at this
          clear HI
          go_wp2_with fail
          go_quiet (fail)
          go_wp2_with fail
          go_roundw
          case rel => exact ⟨k + 1, M, by omega, Or.inl (by omega), by go_num, hM, by unfold Hid; rw [HO2.out, ← HN.out], hR.up (below_drewN (Below.refl _ _) nq), hb.drewN nq⟩
          case measure => simp [intOf]; omega
    · have hkb : ¬ (k : Int) < (b : Int) := by omega
      have HN : Hid (outS a (b - (a + 1)) (a + 1) L = M) := by
        unfold Hid; rw [HO.out, show b - k = 0 by omega]; rfl
      clear HO
      go_wp2_with fail
      go_end0
      exact ⟨rfl, by rw [HN.out]; exact hR, hb⟩

set_option maxRecDepth 20000 in
set_option maxHeartbeats 2000000 in
theorem stable_few (w : World) (g N : Nat) (L : List Mb) (hR : Row w g N L) (hn : L.length < 20) :
    Calls Try.prog 75 #[.slice (some ⟨g, 0, none⟩) L.length N, .int .i64 L.length, .func (.func 66) #[] #[]] w fun e w' => e = .returned (.tuple #[]) ∧ Row w' g N (outS 0 (L.length - 1) 1 L) ∧ Ex g w w' := by
  have hI := insertion_any w g N L 0 L.length hR (Nat.zero_le _) (Nat.le_refl _) (by omega)
  rw [Nat.zero_add] at hI
  generalize outS 0 (L.length - 1) 1 L = M at *
  generalize L.length = n at *
  clear hR
  go_enter Try.func75, Try.ntmps75
  go_wp2_with fail
  go_loopw [7, 8] (fun u v wr => u = .int .i64 0 ∧ v = .int .i64 20 ∧ wr = w) (fun _ _ _ => 0)
  case atStart => exact ⟨rfl, rfl, rfl⟩
  case round =>
    obtain ⟨rfl, rfl, rfl⟩ := hrel
    have h20 : ¬ (20 : Int) ≤ (n : Int) := by omega
    have h21 : ¬ (20 : Int) < (n : Int) := by omega
    go_wp2_with fail
    refine hI.mono ?_
    rintro r w1 ⟨rfl, hR1, hb1⟩
    go_wp2_with fail
    go_loopw [6] (fun v wr => v = .int .i64 20 ∧ wr = w1) (fun _ _ => 0)
    case atStart => exact ⟨rfl, rfl⟩
    case round =>
      obtain ⟨rfl, rfl⟩ := hrel
      go_wp2_with fail
      go_end0
      exact ⟨rfl, hR1, hb1⟩

set_option maxRecDepth 20000 in
theorem sort_few (w : World) (g N : Nat) (L : List Mb) (hR : Row w g N L) (hn : L.length < 20) :
    Calls Try.prog 65 #[.slice (some ⟨g, 0, none⟩) L.length N, .func (.func 66) #[] #[]] w fun e w' => e = .returned (.tuple #[]) ∧ Row w' g N (outS 0 (L.length - 1) 1 L) ∧ Ex g w w' := by
  have hI := stable_few w g N L hR hn
  generalize outS 0 (L.length - 1) 1 L = M at *
  generalize L.length = n at *
  clear hR
  go_enter Try.func65, Try.ntmps65
  go_wp2_with fail
  refine hI.mono ?_
  rintro r w1 ⟨rfl, hR1, hb1⟩
  go_wp2_with fail
  go_end0
  exact ⟨rfl, hR1, hb1⟩

end Go.Proofs.Ytcnkpgbmegppbaa.M
