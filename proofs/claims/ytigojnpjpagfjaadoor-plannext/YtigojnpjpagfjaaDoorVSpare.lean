/-
  Own text: the least node that could join at a site.
-/
import Derived.Test.YtigojnpjpagfjaaDoorVDead
namespace Go.Proofs.YtigojnpjpagfjaaDoor.M
open Go.ChangeShapes Go.WideShapes Go.ChangeAt Go.RowKit

/-- Those at home at a site, of the first k nodes. -/
def homN (hs : List Int) (s : Int) : Nat → Nat
  | 0 => 0
  | k + 1 => if hs.getD k 0 = s then homN hs s k ||| bitN k else homN hs s k

theorem homN_lt (hs : List Int) (s : Int) : ∀ k, homN hs s k < 18446744073709551616
  | 0 => by rw [homN]; decide
  | k + 1 => by
    rw [homN]
    split
    · exact or_lt64 (homN_lt hs s k) (bitN_lt _)
    · exact homN_lt hs s k

theorem homN_yes {hs : List Int} {s : Int} {k X : Nat} (hX : X = homN hs s k) (h : hs.getD k 0 = s) : X ||| bitN (k : Int) = homN hs s (k + 1) := by
  rw [homN, if_pos h, hX]

theorem homN_no {hs : List Int} {s : Int} {k X : Nat} (hX : X = homN hs s k) (h : ¬ hs.getD k 0 = s) : X = homN hs s (k + 1) := by
  rw [homN, if_neg h, hX]

/-- The spare ones of a site. -/
def spareW (al : Nat) (hs : List Int) (ms : List Mb) (s : Int) : Nat := (homN hs s 6 &&& al) &&& (18446744073709551615 - thN (fun _ => true) 0 ms)

/-- The least of a set; -1: it is empty. -/
def lowV (x : Nat) : Int := if x = 0 then -1 else (tz x : Int)

/-- The least spare one; -1: there is none. -/
def spareV (al : Nat) (hs : List Int) (ms : List Mb) (s : Int) : Int := lowV (spareW al hs ms s)

theorem low_all (x : Nat) (w : World) (h : x < 18446744073709551616) (ht : Tab w) : Calls Tryd.prog 95 #[.int .u64 x] w fun e w' => e = .returned (.int .i64 (lowV x)) ∧ Below w.heap.size w w' := by
  by_cases h0 : x = 0
  · subst h0
    exact (low_none w).mono fun e w' ⟨h1, h2⟩ => ⟨h1, by rw [h2]; exact Below.refl _ _⟩
  · have e : lowV x = (tz x : Int) := if_neg h0
    rw [e]
    exact (low_any x w (by omega) h ht).mono fun e w' ⟨h1, h2⟩ => ⟨h1, by rw [h2]; exact Below.refl _ _⟩

theorem and_below (x y : Nat) (w : World) (hx : x < 18446744073709551616) (hy : y < 18446744073709551616) : Calls Tryd.prog 34 #[.int .u64 x, .int .u64 y] w fun e w' => e = .returned (.int .u64 ((x &&& y : Nat) : Int)) ∧ Below w.heap.size w w' :=
  (and_any x y w hx hy).mono fun e w' ⟨h1, h2⟩ => ⟨h1, by rw [h2]; exact Below.refl _ _⟩

theorem but_below (x y : Nat) (w : World) (hx : x < 18446744073709551616) (hy : y < 18446744073709551616) : Calls Tryd.prog 94 #[.int .u64 x, .int .u64 y] w fun e w' => e = .returned (.int .u64 ((x &&& (18446744073709551615 - y) : Nat) : Int)) ∧ Below w.heap.size w w' :=
  (but_any x y w hx hy).mono fun e w' ⟨h1, h2⟩ => ⟨h1, by rw [h2]; exact Below.refl _ _⟩

set_option maxRecDepth 20000 in
set_option maxHeartbeats 2000000 in
theorem spare_any (e : Int) (p : Option Addr) (n c : Nat) (ms : List Mb) (al : Nat) (h0 h1 h2 h3 h4 h5 v0 v1 v2 : Int) (s : Int) (w : World) (hal : al < 18446744073709551616) (hr : RdM w p n c ms) (hn : n ≤ 5864062014805) (ht : Tab w) :
    Calls Tryd.prog 79 #[.agg #[.int .i64 e, .slice p n c, .int .u64 (al : Int), .int .i64 h0, .int .i64 h1, .int .i64 h2, .int .i64 h3, .int .i64 h4, .int .i64 h5, .int .i64 v0, .int .i64 v1, .int .i64 v2], .int .i64 s] w fun r w' => r = .returned (.int .i64 (spareV al [h0, h1, h2, h3, h4, h5] ms s)) ∧ Below w.heap.size w w' := by
  have hb0 := below_alloc w (.cells #[.int .i64 e, .slice p n c, .int .u64 (al : Int), .int .i64 h0, .int .i64 h1, .int .i64 h2, .int .i64 h3, .int .i64 h4, .int .i64 h5, .int .i64 v0, .int .i64 v1, .int .i64 v2] 72)
  have hS := At.new 72 w #[.int .i64 e, .slice p n c, .int .u64 (al : Int), .int .i64 h0, .int .i64 h1, .int .i64 h2, .int .i64 h3, .int .i64 h4, .int .i64 h5, .int .i64 v0, .int .i64 v1, .int .i64 v2]
  have hiH := fun k hk W => idxH h0 h1 h2 h3 h4 h5 k hk W
  obtain ⟨R, HR⟩ : ∃ x, Hid (spareV al [h0, h1, h2, h3, h4, h5] ms s = x) := ⟨_, rfl⟩
  rw [HR.out]
  obtain ⟨hs, HS⟩ : ∃ l : List Int, Hid (l = [h0, h1, h2, h3, h4, h5]) := ⟨_, rfl⟩
  rw [← HS.out] at hiH HR
  clear HS
  generalize hw : w.heap.size = b at *
  obtain ⟨a0, a1, a2, ⟨a3, a4, a5, a6, a7, a8⟩, a9, a10, a11⟩ := hS.state
  go_enter Tryd.func79, Tryd.ntmps79
  go_wp2_with fail
  go_loopw [5, 10] (fun x i wr => ∃ (k X : Nat), k ≤ 6 ∧ i = .int .i64 k ∧ x = .int .u64 X ∧ X < 18446744073709551616 ∧ Hid (X = homN hs s k) ∧ At 72 wr b #[.int .i64 e, .slice p n c, .int .u64 (al : Int), .int .i64 h0, .int .i64 h1, .int .i64 h2, .int .i64 h3, .int .i64 h4, .int .i64 h5, .int .i64 v0, .int .i64 v1, .int .i64 v2] ∧ Below b w wr) (fun _ i _ => 6 - (intOf i).toNat)
  case atStart => exact ⟨0, 0, by omega, rfl, rfl, by decide, rfl, hS, hb0⟩
  case round =>
    clear hS hb0 a0 a1 a2 a3 a4 a5 a6 a7 a8 a9 a10 a11
    obtain ⟨k, X, hk, rfl, rfl, hX, HX, hS, hb⟩ := hrel
    by_cases h : k < 6
    · have h1 := hiH k h
      have g1 := homN_yes (hs := hs) (s := s) HX.out
      have g2 := homN_no (hs := hs) (s := s) HX.out
      have hWi := fun W => with_any X (k : Int) W hX
      have hXl := or_lt64 hX (bitN_lt (k : Int))
      clear hiH HX
      generalize hs.getD k 0 = x at *
      generalize X ||| bitN (k : Int) = X2 at *
      by_cases hx : x = s
      · have HX2 : Hid (X2 = homN hs s (k + 1)) := g1 hx
        subst hx
        clear g1 g2
        go_wp2_with fail
        refine (hWi _).mono ?_
        rintro r w2 ⟨rfl, hw2⟩
        subst hw2
        go_wp2_with fail
        go_roundw
        case rel => exact ⟨k + 1, X2, by omega, by go_num, rfl, hXl, HX2, hS, hb⟩
        case measure => simp [intOf]; omega
      · have HX2 : Hid (X = homN hs s (k + 1)) := g2 hx
        clear g1 g2 hWi
        go_wp2_with fail
        go_roundw
        case rel => exact ⟨k + 1, X, by omega, by go_num, rfl, hX, HX2, hS, hb⟩
        case measure => simp [intOf]; omega
    · have HX2 : Hid (X = homN hs s 6) := by
        have e : k = 6 := by omega
        have := HX.out
        rw [e] at this
        exact this
      clear HX hiH
      have hr0 := hr.below (by rw [hw]; exact hb)
      have ht0 := ht.below (by rw [hw]; exact hb)
      obtain ⟨a0, a1, a2, ⟨a3, a4, a5, a6, a7, a8⟩, a9, a10, a11⟩ := hS.state
      have hY : thN (fun _ => true) 0 ms < 18446744073709551616 := thN_lt _ _ _ (by decide)
      have hbW := fun d os => below_regrown wr d os
      have c1 := fun d os => Calls.regrown_of (and_below X al (Sort.grow (redrawn wr d) os) hX hal)
      have c2 := fun d os => Calls.regrown_of (Nodes_any e p n c ms _ (hr0.below (hbW d os)) hn)
      have c3 := fun d os => Calls.regrown_of (but_below (X &&& al) _ (Sort.grow (redrawn wr d) os) (and_lt64 hX) hY)
      have c4 := fun d os => Calls.regrown_of (low_all ((X &&& al) &&& (18446744073709551615 - thN (fun _ => true) 0 ms)) (Sort.grow (redrawn wr d) os) (and_lt64 (and_lt64 hX)) (ht0.below (hbW d os)))
      have HR2 : Hid (lowV ((X &&& al) &&& (18446744073709551615 - thN (fun _ => true) 0 ms)) = R) := by
        unfold Hid; rw [← HR.out]; unfold spareV spareW; rw [← HX2.out]
      rw [HR2.out] at c4
      generalize (X &&& al) &&& (18446744073709551615 - thN (fun _ => true) 0 ms) = z3 at *
      generalize thN (fun _ => true) 0 ms = z2 at *
      generalize X &&& al = z1 at *
      have k0 := cell_regrown a0
      have k1 := cell_regrown a1
      have k2 := cell_regrown a2
      clear hbW hr0 hr ht ht0 HR HX2 HR2 hY a0 a1 a2 a3 a4 a5 a6 a7 a8 a9 a10 a11
      go_wp2_with fail
      refine wp_region_quiet_below (by kernel_rfl) (by kernel_rfl) ?_
      repeat (quiet_step (first | (go_at_call 34; exact c1 _ _) | (go_at_call 31; exact c2 _ _) | (go_at_call 94; exact c3 _ _) | (go_at_call 95; exact c4 _ _)))
      refine wpQuiet_nil ?_
      intro _ hw'
      obtain ⟨⟨dq, osq⟩, hw''⟩ := hw'
      subst hw''
      have hbq := below_regrown wr dq osq
      go_wp2_with fail
      go_ret
      exact ⟨rfl, hb.trans (hbq.mono (by have := hb.size; omega))⟩

end Go.Proofs.YtigojnpjpagfjaaDoor.M
