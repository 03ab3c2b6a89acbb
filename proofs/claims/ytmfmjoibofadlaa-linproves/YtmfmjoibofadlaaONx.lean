/-
  Own text: rows of truth values, and which call may stand next, as the reference tells it.
-/
import Derived.Test.YtmfmjoibofadlaaOBase
import Derived.Test.YtmfmjoibofadlaaZArr
namespace Go.Proofs.Ytmfmjoibofadlaa.M
open Go.ChangeShapes Go.WideShapes Go.ChangeAt Go.RowKit
set_option linter.unusedSimpArgs false

/-- A row of truth values in block g. -/
def boos (xs : List Bool) : Array Value := (xs.map Value.bool).toArray

theorem boos_get (xs : List Bool) {i : Nat} (h : i < xs.length) : (boos xs)[i]? = some (.bool (xs.getD i false)) := by
  rw [boos, List.getElem?_toArray, List.getElem?_map, List.getD_eq_getElem?_getD, List.getElem?_eq_getElem h]
  rfl

def BR (w : World) (g : Nat) (xs : List Bool) : Prop := At 4 w g (boos xs)

theorem BR.cell {w : World} {g : Nat} {xs : List Bool} (h : BR w g xs) {i : Nat} (hi : i < xs.length) : w.cell? ⟨g, i, none⟩ = some (.bool (xs.getD i false)) := (At.cell h i).trans (boos_get xs hi)

theorem BR.free {w : World} {g : Nat} {xs : List Bool} (h : BR w g xs) (i : Nat) : w.frozen? ⟨g, i, none⟩ = false := At.free h i

theorem BR.lt {w : World} {g : Nat} {xs : List Bool} (h : BR w g xs) : g < w.heap.size := At.lt h

theorem BR.below {w w' : World} {g : Nat} {xs : List Bool} (h : BR w g xs) (hb : Below w.heap.size w w') : BR w' g xs := At.below h hb

theorem BR.set {w : World} {g : Nat} {xs : List Bool} (h : BR w g xs) (i : Nat) (x : Bool) : BR (w.setCell ⟨g, i, none⟩ (.bool x)) g (xs.set i x) := by
  have h1 := heap_setCell_same w g i _ _ (.bool x) h
  unfold BR At
  rw [h1]
  congr 2
  unfold boos
  rw [List.map_set, List.setIfInBounds_toArray]

/-- Whether a call ended ahead of another one's beginning. -/
def bfr (a b : Lo) : Bool := decide (0 < a.e) && decide (a.e < b.b)

set_option maxRecDepth 20000 in
theorem before_any (a b : Lo) (w : World) : Calls Try.prog 46 #[.agg #[.bool a.w, .string a.s, .int .i64 a.v, .int .i64 a.b, .int .i64 a.e], .agg #[.bool b.w, .string b.s, .int .i64 b.v, .int .i64 b.b, .int .i64 b.e]] w fun e w' => e = .returned (.bool (bfr a b)) ∧ Below w.heap.size w w' := by
  have hb1 := below_alloc w (.cells #[.bool a.w, .string a.s, .int .i64 a.v, .int .i64 a.b, .int .i64 a.e] 29)
  have hb2 := below_alloc (w.alloc (.cells #[.bool a.w, .string a.s, .int .i64 a.v, .int .i64 a.b, .int .i64 a.e] 29)) (.cells #[.bool b.w, .string b.s, .int .i64 b.v, .int .i64 b.b, .int .i64 b.e] 29)
  have hbb := hb1.trans (hb2.mono hb1.size)
  obtain ⟨y0, y1, y2, y3, y4⟩ := (Bx.new w a 29).below hb2
  have hB := Bx.new (w.alloc (.cells #[.bool a.w, .string a.s, .int .i64 a.v, .int .i64 a.b, .int .i64 a.e] 29)) b 29
  have hs1 : (w.alloc (.cells #[.bool a.w, .string a.s, .int .i64 a.v, .int .i64 a.b, .int .i64 a.e] 29)).heap.size = w.heap.size + 1 := by simp
  rw [hs1] at hB
  obtain ⟨z0, z1, z2, z3, z4⟩ := hB
  unfold bfr
  obtain ⟨aw, az, av, ab, ae⟩ := a
  obtain ⟨bw, bz, bv, bb, be⟩ := b
  dsimp only at *
  clear hb1 hb2 hs1
  by_cases h : 0 < ae
  · rw [decide_eq_true h, Bool.true_and]
    go_enter Try.func46, Try.ntmps46
    go_wp2_with fail
    go_ret
    exact ⟨rfl, hbb⟩
  · rw [decide_eq_false h, Bool.false_and]
    go_enter Try.func46, Try.ntmps46
    go_wp2_with fail
    go_ret
    exact ⟨rfl, hbb⟩

/-- Of the last m of n calls: none that is left ended ahead of call i's beginning. -/
def nxA (L : List Lo) (xs : List Bool) (i n : Nat) : Nat → Bool
  | 0 => true
  | m + 1 => if xs.getD (n - (m + 1)) false = true ∧ n - (m + 1) ≠ i ∧ bfr (L.getD (n - (m + 1)) .z0) (L.getD i .z0) = true then false else nxA L xs i n m

theorem nxA_iff (L : List Lo) (xs : List Bool) (i n : Nat) : ∀ m, m ≤ n → (nxA L xs i n m = true ↔ ∀ k, n - m ≤ k → k < n → ¬ (xs.getD k false = true ∧ k ≠ i ∧ bfr (L.getD k .z0) (L.getD i .z0) = true))
  | 0, _ => ⟨fun _ k h1 h2 => by omega, fun _ => rfl⟩
  | m + 1, hm => by
    unfold nxA
    by_cases h : xs.getD (n - (m + 1)) false = true ∧ n - (m + 1) ≠ i ∧ bfr (L.getD (n - (m + 1)) .z0) (L.getD i .z0) = true
    · rw [if_pos h]
      refine ⟨fun e => absurd e (by decide), fun H => absurd h (H _ (Nat.le_refl _) (by omega))⟩
    · rw [if_neg h, nxA_iff L xs i n m (by omega)]
      refine ⟨fun H k h1 h2 => ?_, fun H k h1 h2 => H k (by omega) h2⟩
      by_cases e : k = n - (m + 1)
      · subst e; exact h
      · exact H k (by omega) h2

set_option maxRecDepth 20000 in
set_option maxHeartbeats 4000000 in
theorem next_any (w : World) (p : Option Addr) (n c : Nat) (L : List Lo) (hr : RdO w p n c L) (hn : n ≤ 1099511627776) (g cg : Nat) (xs : List Bool) (hx : BR w g xs) (hxl : xs.length = n) (i : Nat) (hi : i < n) :
    Calls Try.prog 26 #[.slice p n c, .slice (some ⟨g, 0, none⟩) n cg, .int .i64 (i : Int)] w fun e w' => e = .returned (.bool (nxA L xs i n n)) ∧ Below w.heap.size w w' := by
  have hl := hr.len
  go_enter Try.func26, Try.ntmps26
  go_wp2_with fail
  go_loopw [11] (fun vi wr => ∃ k : Nat, k ≤ n ∧ vi = .int .i64 k ∧ Hid (nxA L xs i n n = nxA L xs i n (n - k)) ∧ Below w.heap.size w wr) (fun vi _ => n - (intOf vi).toNat)
  case atStart => exact ⟨0, Nat.zero_le _, rfl, rfl, Below.refl _ _⟩
  case round =>
    obtain ⟨k, hk, rfl, HG, hb⟩ := hrel
    by_cases hkn : k < n
    · have hki : (k : Int) < (n : Int) := by omega
      have hii : (i : Int) < (n : Int) := by omega
      obtain ⟨b, o, rfl, hc⟩ := (hr.below hb).cells (by omega)
      obtain ⟨x0, x1, x2, x3, x4⟩ := hc k hkn
      have y5 := (hx.below hb).cell (i := k) (by omega)
      have hb0 := below_alloc wr (.cells #[.bool (L.getD k .z0).w, .string (L.getD k .z0).s, .int .i64 (L.getD k .z0).v, .int .i64 (L.getD k .z0).b, .int .i64 (L.getD k .z0).e] 29)
      have hbb := hb.trans (hb0.mono hb.size)
      obtain ⟨b0, b1, b2, b3, b4⟩ := Bx.new wr (L.getD k .z0) 29
      have y5' := (hb0.cell (p := ⟨g, k, none⟩) (World.block_lt_of_cell? _ _ y5)).trans y5
      obtain ⟨v0, v1, v2, v3, v4⟩ := hc i hi
      have hz : ∀ z, z.block < wr.heap.size → (wr.alloc (.cells #[.bool (L.getD k .z0).w, .string (L.getD k .z0).s, .int .i64 (L.getD k .z0).v, .int .i64 (L.getD k .z0).b, .int .i64 (L.getD k .z0).e] 29)).cell? z = wr.cell? z := fun z h => hb0.cell h
      have u0 := (hz ⟨b, o + i * 5, none⟩ (World.block_lt_of_cell? _ _ v0)).trans v0
      have u1 := (hz ⟨b, o + i * 5 + 1, none⟩ (World.block_lt_of_cell? _ _ v1)).trans v1
      have u2 := (hz ⟨b, o + i * 5 + 2, none⟩ (World.block_lt_of_cell? _ _ v2)).trans v2
      have u3 := (hz ⟨b, o + i * 5 + 3, none⟩ (World.block_lt_of_cell? _ _ v3)).trans v3
      have u4 := (hz ⟨b, o + i * 5 + 4, none⟩ (World.block_lt_of_cell? _ _ v4)).trans v4
      have hcb := fun W => before_any (L.getD k .z0) (L.getD i .z0) W
      have HG2 : Hid (nxA L xs i n n = if xs.getD k false = true ∧ k ≠ i ∧ bfr (L.getD k .z0) (L.getD i .z0) = true then false else nxA L xs i n (n - (k + 1))) := by
        unfold Hid
        rw [HG.out]
        obtain ⟨m, hm⟩ : ∃ m, n - k = m + 1 := ⟨n - k - 1, by omega⟩
        have e1 : n - (m + 1) = k := by omega
        have e2 : n - (k + 1) = m := by omega
        rw [hm, e2]
        show (if xs.getD (n - (m + 1)) false = true ∧ n - (m + 1) ≠ i ∧ bfr (L.getD (n - (m + 1)) .z0) (L.getD i .z0) = true then false else nxA L xs i n m) = _
        rw [e1]
      clear HG v0 v1 v2 v3 v4 hz hc hr y5 hx hl hxl
      generalize bfr (L.getD k .z0) (L.getD i .z0) = zb at *
      generalize L.getD k .z0 = lk at *
      generalize L.getD i .z0 = li at *
      generalize xs.getD k false = xk at *
      obtain ⟨kw, ks, kv, kb, ke⟩ := lk
      obtain ⟨iw, is, iv, ib, ie⟩ := li
      dsimp only at *
      cases xk with
      | false =>
        have HN : Hid (nxA L xs i n n = nxA L xs i n (n - (k + 1))) := by
          unfold Hid; rw [HG2.out]; exact if_neg fun h => absurd h.1 (by decide)
        clear HG2 hcb
        go_wp2_with fail
        generalize hV : (wr.alloc (.cells #[.bool kw, .string ks, .int .i64 kv, .int .i64 kb, .int .i64 ke] 29)) = V at *
        generalize wr.heap.size = bx at *
        clear hV x0 x1 x2 x3 x4
        have k5 := cell_regrown y5'
        have r0 := cell_regrown b0
        have r1 := cell_regrown b1
        have r2 := cell_regrown b2
        have r3 := cell_regrown b3
        have r4 := cell_regrown b4
        have s0 := cell_regrown u0
        have s1 := cell_regrown u1
        have s2 := cell_regrown u2
        have s3 := cell_regrown u3
        have s4 := cell_regrown u4
        clear y5' b0 b1 b2 b3 b4 u0 u1 u2 u3 u4
        refine wp_region_quiet_below (by kernel_rfl) (by kernel_rfl) ?_
        repeat (with_reducible refine wpQuiet_step (fun K hK => ?_); go_simp; first | (with_reducible refine hK _ ?_; clear hK K) | (rw [if_neg (by decide)]; with_reducible refine hK _ ?_; clear hK K))
        with_reducible refine wpQuiet_nil ?_
        intro _ hw'
        obtain ⟨⟨dq, osq⟩, hw''⟩ := hw'
        subst hw''
        have hb1 := hbb.trans ((below_regrown V dq osq).mono hbb.size)
        go_wp2_with fail
        go_roundw
        case rel => exact ⟨k + 1, by omega, by go_num, HN, hb1⟩
        case measure => simp [intOf]; omega
      | true =>
        by_cases hik : k = i
        · have HN : Hid (nxA L xs i n n = nxA L xs i n (n - (k + 1))) := by
            unfold Hid; rw [HG2.out]; exact if_neg fun h => h.2.1 hik
          clear HG2 hcb
          subst hik
          go_wp2_with fail
          generalize hV : (wr.alloc (.cells #[.bool kw, .string ks, .int .i64 kv, .int .i64 kb, .int .i64 ke] 29)) = V at *
          generalize wr.heap.size = bx at *
          clear hV x0 x1 x2 x3 x4
          have k5 := cell_regrown y5'
          have r0 := cell_regrown b0
          have r1 := cell_regrown b1
          have r2 := cell_regrown b2
          have r3 := cell_regrown b3
          have r4 := cell_regrown b4
          have s0 := cell_regrown u0
          have s1 := cell_regrown u1
          have s2 := cell_regrown u2
          have s3 := cell_regrown u3
          have s4 := cell_regrown u4
          clear y5' b0 b1 b2 b3 b4 u0 u1 u2 u3 u4
          refine wp_region_quiet_below (by kernel_rfl) (by kernel_rfl) ?_
          repeat (with_reducible refine wpQuiet_step (fun K hK => ?_); go_simp; first | (with_reducible refine hK _ ?_; clear hK K) | (rw [if_neg (by decide)]; with_reducible refine hK _ ?_; clear hK K))
          with_reducible refine wpQuiet_nil ?_
          intro _ hw'
          obtain ⟨⟨dq, osq⟩, hw''⟩ := hw'
          subst hw''
          have hb1 := hbb.trans ((below_regrown V dq osq).mono hbb.size)
          go_wp2_with fail
          go_roundw
          case rel => exact ⟨k + 1, by omega, by go_num, HN, hb1⟩
          case measure => simp [intOf]; omega
        · have hq : ((k : Int) = (i : Int)) = False := by simp; omega
          have hq2 : (k = i) = False := eq_false hik
          have hq3 : ((k : Int) == (i : Int)) = false := by simp; omega
          have hq4 : (k == i) = false := by simp; omega
          cases zb with
          | false =>
            have HN : Hid (nxA L xs i n n = nxA L xs i n (n - (k + 1))) := by
              unfold Hid; rw [HG2.out]; exact if_neg fun h => absurd h.2.2 (by decide)
            clear HG2 hik
            go_wp2_with fail
            generalize hV : (wr.alloc (.cells #[.bool kw, .string ks, .int .i64 kv, .int .i64 kb, .int .i64 ke] 29)) = V at *
            generalize wr.heap.size = bx at *
            clear hV x0 x1 x2 x3 x4
            have k5 := cell_regrown y5'
            have r0 := cell_regrown b0
            have r1 := cell_regrown b1
            have r2 := cell_regrown b2
            have r3 := cell_regrown b3
            have r4 := cell_regrown b4
            have s0 := cell_regrown u0
            have s1 := cell_regrown u1
            have s2 := cell_regrown u2
            have s3 := cell_regrown u3
            have s4 := cell_regrown u4
            clear y5' b0 b1 b2 b3 b4 u0 u1 u2 u3 u4
            have c1 := fun dd os => Calls.regrown_of (hcb (Sort.grow (redrawn V dd) os))
            clear hcb
            refine wp_region_quiet_below (by kernel_rfl) (by kernel_rfl) ?_
            repeat (with_reducible refine wpQuiet_step (fun K hK => ?_); go_simp; first | (with_reducible refine hK _ ?_; clear hK K) | (rw [if_neg (by decide)]; with_reducible refine hK _ ?_; clear hK K) | (apply Exists.intro; refine ⟨fun _ => ?_, hK _ ?_⟩; (first | (go_at_call 46; first | with_reducible exact c1 _ _)); clear hK K))
            with_reducible refine wpQuiet_nil ?_
            intro _ hw'
            obtain ⟨⟨dq, osq⟩, hw''⟩ := hw'
            subst hw''
            have hb1 := hbb.trans ((below_regrown V dq osq).mono hbb.size)
            go_wp2_with fail
            go_roundw
            case rel => exact ⟨k + 1, by omega, by go_num, HN, hb1⟩
            case measure => simp [intOf]; omega
          | true =>
            have HN : Hid (nxA L xs i n n = false) := by
              unfold Hid; rw [HG2.out]; exact if_pos ⟨rfl, hik, rfl⟩
            clear HG2 hik
            go_wp2_with fail
            generalize hV : (wr.alloc (.cells #[.bool kw, .string ks, .int .i64 kv, .int .i64 kb, .int .i64 ke] 29)) = V at *
            generalize wr.heap.size = bx at *
            clear hV x0 x1 x2 x3 x4
            have k5 := cell_regrown y5'
            have r0 := cell_regrown b0
            have r1 := cell_regrown b1
            have r2 := cell_regrown b2
            have r3 := cell_regrown b3
            have r4 := cell_regrown b4
            have s0 := cell_regrown u0
            have s1 := cell_regrown u1
            have s2 := cell_regrown u2
            have s3 := cell_regrown u3
            have s4 := cell_regrown u4
            clear y5' b0 b1 b2 b3 b4 u0 u1 u2 u3 u4
            have c1 := fun dd os => Calls.regrown_of (hcb (Sort.grow (redrawn V dd) os))
            clear hcb
            refine wp_region_quiet_below (by kernel_rfl) (by kernel_rfl) ?_
            repeat (with_reducible refine wpQuiet_step (fun K hK => ?_); go_simp; first | (with_reducible refine hK _ ?_; clear hK K) | (rw [if_neg (by decide)]; with_reducible refine hK _ ?_; clear hK K) | (apply Exists.intro; refine ⟨fun _ => ?_, hK _ ?_⟩; (first | (go_at_call 46; first | with_reducible exact c1 _ _)); clear hK K))
            with_reducible refine wpQuiet_nil ?_
            intro _ hw'
            obtain ⟨⟨dq, osq⟩, hw''⟩ := hw'
            subst hw''
            have hb1 := hbb.trans ((below_regrown V dq osq).mono hbb.size)
            go_wp2_with fail
            go_ret
            exact ⟨ret_bool HN.out.symm, hb1⟩
    · obtain rfl : k = n := by omega
      have HN : Hid (nxA L xs i k k = true) := by
        unfold Hid
        rw [HG.out, Nat.sub_self]
        rfl
      clear HG
      go_wp2_with fail
      go_ret
      exact ⟨ret_bool HN.out.symm, hb⟩

end Go.Proofs.Ytmfmjoibofadlaa.M
