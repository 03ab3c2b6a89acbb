/-
  Own text: calls that may be, and sets of them: contracts of open, behind and over.
-/
import Derived.Test.YtmfmjoibofadlaaOBase
import Derived.Test.YtmfmjoibofadlaaPure
namespace Go.Proofs.Ytmfmjoibofadlaa.M
open Go.ChangeShapes Go.WideShapes Go.ChangeAt Go.RowKit
set_option linter.unusedSimpArgs false

/-- What is in the first alone. -/
def butN (x y : Nat) : Nat := x &&& (18446744073709551615 - y)

/-- Calls that may be, those that were answered, and of each those that ended ahead of its beginning, in block h. -/
structure Pa (w : World) (h : Nat) (p : Option Addr) (n c : Nat) (q : Option Addr) (d : Nat) (L : List Lo) (mu : Nat) (ah : List Int) : Prop where
  c0 : w.cell? ⟨h, 0, none⟩ = some (.slice p n c)
  c1 : w.cell? ⟨h, 1, none⟩ = some (.int .u64 mu)
  c2 : w.cell? ⟨h, 2, none⟩ = some (.slice q n d)
  ops : RdO w p n c L
  sets : Rd .u64 w q n d ah
  mul : mu < 18446744073709551616
  wd : Wd ah

theorem Pa.below {w w' : World} {h : Nat} {p : Option Addr} {n c : Nat} {q : Option Addr} {d : Nat} {L : List Lo} {mu : Nat} {ah : List Int} (H : Pa w h p n c q d L mu ah) (hb : Below w.heap.size w w') : Pa w' h p n c q d L mu ah := by
  have hlt := World.block_lt_of_cell? _ _ H.c0
  exact ⟨by rw [hb.cell (p := ⟨h, 0, none⟩) hlt]; exact H.c0, by rw [hb.cell (p := ⟨h, 1, none⟩) hlt]; exact H.c1, by rw [hb.cell (p := ⟨h, 2, none⟩) hlt]; exact H.c2, H.ops.below hb, H.sets.below hb, H.mul, H.wd⟩

theorem Wd.nat {ah : List Int} (h : Wd ah) (i : Nat) : ∃ x : Nat, ah.getD i 0 = (x : Int) ∧ x < 18446744073709551616 := by
  rcases Nat.lt_or_ge i ah.length with hi | hi
  · have := h (ah.getD i 0) (getD_mem hi)
    exact ⟨(ah.getD i 0).toNat, by omega, by omega⟩
  · rw [List.getD_eq_getElem?_getD, List.getElem?_eq_none hi]
    exact ⟨0, rfl, by decide⟩

/-- Whether all that were answered are done. -/
def overB (mu d : Nat) : Bool := ((butN mu d : Nat) : Int) == 0

/-- Whether a call may stand next. -/
def openB (n : Nat) (L : List Lo) (ah : List Int) (d : Nat) (v : ByteArray) (i : Int) : Bool :=
  !decide (i < 0) && (!decide ((n : Int) ≤ i) && (!hasN d i && ((((butN (ah.getD i.toNat 0).toNat d : Nat) : Int) == 0) && ((L.getD i.toNat .z0).w || (L.getD i.toNat .z0).s.toList == v.toList))))

theorem point_box (w : World) (t : TypeId) (d : Nat) (v : ByteArray) : (w.alloc (.cells #[.int .u64 d, .string v] t)).cell? ⟨w.heap.size, 0, none⟩ = some (.int .u64 d) ∧ (w.alloc (.cells #[.int .u64 d, .string v] t)).cell? ⟨w.heap.size, 1, none⟩ = some (.string v) := by
  refine ⟨?_, ?_⟩ <;> simp

set_option maxRecDepth 20000 in
set_option maxHeartbeats 2000000 in
theorem over_any (w : World) (h : Nat) (p : Option Addr) (n c : Nat) (q : Option Addr) (e : Nat) (L : List Lo) (mu : Nat) (ah : List Int) (H : Pa w h p n c q e L mu ah) (d : Nat) (hd : d < 18446744073709551616) (v : ByteArray) :
    Calls Try.prog 30 #[.pointer (some ⟨h, 0, none⟩), .agg #[.int .u64 d, .string v]] w fun r w' => r = .returned (.bool (overB mu d)) ∧ Below w.heap.size w w' := by
  have hb0 := below_alloc w (.cells #[.int .u64 d, .string v] 53)
  have y1 := (H.below hb0).c1
  obtain ⟨b0, b1⟩ := point_box w 53 d v
  have cB := fun W => but_any mu d W H.mul hd
  have HO : Hid ((((mu &&& (18446744073709551615 - d) : Nat) : Int) == 0) = overB mu d) := rfl
  generalize mu &&& (18446744073709551615 - d) = z at *
  generalize overB mu d = r at *
  clear H
  go_enter Try.func30, Try.ntmps30
  go_wp2_with fail
  generalize (w.alloc (.cells #[.int .u64 d, .string v] 53)) = V at *
  have k1 := cell_regrown y1
  have k2 := cell_regrown b0
  have c1 := fun dd os => Calls.regrown_of ((cB (Sort.grow (redrawn V dd) os)).mono fun e w' ⟨h1, h2⟩ => ⟨h1, h2 ▸ Below.refl _ _⟩)
  refine wp_region_quiet_below (by kernel_rfl) (by kernel_rfl) ?_
  repeat (with_reducible refine wpQuiet_step (fun K hK => ?_); go_simp; first | (with_reducible refine hK _ ?_; clear hK K) | (rw [if_neg (by decide)]; with_reducible refine hK _ ?_; clear hK K) | (apply Exists.intro; refine ⟨fun _ => ?_, hK _ ?_⟩; (first | (go_at_call 50; first | with_reducible exact c1 _ _)); clear hK K))
  with_reducible refine wpQuiet_nil ?_
  intro _ hw'
  obtain ⟨⟨dq, osq⟩, hw''⟩ := hw'
  subst hw''
  have hb1 := hb0.trans ((below_regrown V dq osq).mono hb0.size)
  go_wp2_with fail
  go_ret
  exact ⟨ret_bool HO.out, hb1⟩

set_option maxRecDepth 20000 in
set_option maxHeartbeats 4000000 in
theorem open_any (w : World) (h : Nat) (p : Option Addr) (n c : Nat) (q : Option Addr) (e : Nat) (L : List Lo) (mu : Nat) (ah : List Int) (H : Pa w h p n c q e L mu ah) (d : Nat) (hd : d < 18446744073709551616) (v : ByteArray) (i : Int) :
    Calls Try.prog 28 #[.pointer (some ⟨h, 0, none⟩), .agg #[.int .u64 d, .string v], .int .i64 i] w fun r w' => r = .returned (.bool (openB n L ah d v i)) ∧ Below w.heap.size w w' := by
  have hb0 := below_alloc w (.cells #[.int .u64 d, .string v] 53)
  obtain ⟨c0, _, c2, hops, hsets, _, hwd⟩ := H.below hb0
  obtain ⟨b0, b1⟩ := point_box w 53 d v
  clear H
  by_cases hi1 : i < 0
  · have HF : Hid (openB n L ah d v i = false) := by unfold Hid openB; rw [decide_eq_true hi1]; rfl
    clear hops hsets hwd
    go_enter Try.func28, Try.ntmps28
    go_wp2_with fail
    generalize (w.alloc (.cells #[.int .u64 d, .string v] 53)) = V at *
    refine wp_region_quiet_below (by kernel_rfl) (by kernel_rfl) ?_
    repeat (with_reducible refine wpQuiet_step (fun K hK => ?_); go_simp; first | (with_reducible refine hK _ ?_; clear hK K) | (rw [if_neg (by decide)]; with_reducible refine hK _ ?_; clear hK K))
    with_reducible refine wpQuiet_nil ?_
    intro _ hw'
    obtain ⟨⟨dq, osq⟩, hw''⟩ := hw'
    subst hw''
    have hb1 := hb0.trans ((below_regrown V dq osq).mono hb0.size)
    go_wp2_with fail
    go_ret
    exact ⟨ret_bool HF.out.symm, hb1⟩
  · by_cases hi2 : (n : Int) ≤ i
    · have HF : Hid (openB n L ah d v i = false) := by unfold Hid openB; rw [decide_eq_false hi1, decide_eq_true hi2]; rfl
      clear hops hsets hwd
      go_enter Try.func28, Try.ntmps28
      go_wp2_with fail
      generalize (w.alloc (.cells #[.int .u64 d, .string v] 53)) = V at *
      have k0 := cell_regrown c0
      refine wp_region_quiet_below (by kernel_rfl) (by kernel_rfl) ?_
      repeat (with_reducible refine wpQuiet_step (fun K hK => ?_); go_simp; first | (with_reducible refine hK _ ?_; clear hK K) | (rw [if_neg (by decide)]; with_reducible refine hK _ ?_; clear hK K))
      with_reducible refine wpQuiet_nil ?_
      intro _ hw'
      obtain ⟨⟨dq, osq⟩, hw''⟩ := hw'
      subst hw''
      have hb1 := hb0.trans ((below_regrown V dq osq).mono hb0.size)
      go_wp2_with fail
      go_ret
      exact ⟨ret_bool HF.out.symm, hb1⟩
    · obtain ⟨k, rfl⟩ := Int.eq_ofNat_of_zero_le (show 0 ≤ i by omega)
      have hk : k < n := by omega
      clear hi1 hi2
      go_enter Try.func28, Try.ntmps28
      go_wp2_with fail
      generalize (w.alloc (.cells #[.int .u64 d, .string v] 53)) = V at *
      have hi1 : ¬ (k : Int) < 0 := by omega
      have hi2 : ¬ (n : Int) ≤ (k : Int) := by omega
      have hi3 : (k : Int) < (n : Int) := by omega
      obtain ⟨b, o, rfl, hc⟩ := hops.cells (by omega)
      obtain ⟨x0, x1, x2, x3, x4⟩ := hc k hk
      obtain ⟨b2, o2, rfl, hc2⟩ := hsets.cells (by omega)
      have z0 := hc2 k hk
      obtain ⟨x, hx, hx64⟩ := hwd.nat k
      rw [hx] at z0
      have HO : Hid (openB n L ah d v (k : Int) = (!hasN d (k : Int) && ((((butN x d : Nat) : Int) == 0) && ((L.getD k .z0).w || (L.getD k .z0).s.toList == v.toList)))) := by
        unfold Hid openB
        rw [decide_eq_false hi1, decide_eq_false hi2, Int.toNat_natCast, hx, Int.toNat_natCast]
        rfl
      have cH := fun W => has_any d (k : Int) W hd
      have cB := fun W => but_any x d W hx64 hd
      have HB : Hid (x &&& (18446744073709551615 - d) = butN x d) := rfl
      rw [HB.out] at cB
      clear hc hc2 hx hops hsets hwd HB
      generalize (L.getD k .z0).w = lw at *
      generalize (L.getD k .z0).s = ls at *
      generalize hasN d (k : Int) = hs at *
      generalize butN x d = bz at *
      have k0 := cell_regrown c0
      have k2 := cell_regrown c2
      have kb0 := cell_regrown b0
      have kb1 := cell_regrown b1
      have kx0 := cell_regrown x0
      have kx1 := cell_regrown x1
      have kz0 := cell_regrown z0
      have cc1 := fun dd os => Calls.regrown_of ((cH (Sort.grow (redrawn V dd) os)).mono fun e w' ⟨h1, h2⟩ => ⟨h1, h2 ▸ Below.refl _ _⟩)
      have cc2 := fun dd os => Calls.regrown_of ((cB (Sort.grow (redrawn V dd) os)).mono fun e w' ⟨h1, h2⟩ => ⟨h1, h2 ▸ Below.refl _ _⟩)
      clear cH cB
      cases hs with
      | true =>
        have HF : Hid (openB n L ah d v (k : Int) = false) := HO.out
        clear HO
        refine wp_region_quiet_below (by kernel_rfl) (by kernel_rfl) ?_
        repeat (with_reducible refine wpQuiet_step (fun K hK => ?_); go_simp; first | (with_reducible refine hK _ ?_; clear hK K) | (rw [if_neg (by decide)]; with_reducible refine hK _ ?_; clear hK K) | (apply Exists.intro; refine ⟨fun _ => ?_, hK _ ?_⟩; (first | (go_at_call 49; first | with_reducible exact cc1 _ _)); clear hK K))
        with_reducible refine wpQuiet_nil ?_
        intro _ hw'
        obtain ⟨⟨dq, osq⟩, hw''⟩ := hw'
        subst hw''
        have hb1 := hb0.trans ((below_regrown V dq osq).mono hb0.size)
        go_wp2_with fail
        go_ret
        exact ⟨ret_bool HF.out.symm, hb1⟩
      | false =>
        by_cases hz : ((bz : Nat) : Int) = 0
        · have hz1 : (((bz : Nat) : Int) != 0) = false := by simp [hz]
          have hz2 : (((bz : Nat) : Int) == 0) = true := by simp [hz]
          have HF0 : Hid (openB n L ah d v (k : Int) = (lw || ls.toList == v.toList)) := by unfold Hid; rw [HO.out, hz2]; rfl
          clear HO hz hz2
          refine wp_region_quiet_below (by kernel_rfl) (by kernel_rfl) ?_
          repeat (with_reducible refine wpQuiet_step (fun K hK => ?_); go_simp; first | (with_reducible refine hK _ ?_; clear hK K) | (rw [if_neg (by decide)]; with_reducible refine hK _ ?_; clear hK K) | (apply Exists.intro; refine ⟨fun _ => ?_, hK _ ?_⟩; (first | (go_at_call 49; first | with_reducible exact cc1 _ _) | (go_at_call 50; first | with_reducible exact cc2 _ _)); clear hK K))
          with_reducible refine wpQuiet_nil ?_
          intro _ hw'
          obtain ⟨⟨dq, osq⟩, hw''⟩ := hw'
          subst hw''
          have hb1 := hb0.trans ((below_regrown V dq osq).mono hb0.size)
          have g0 := k0 dq osq
          have gb1 := kb1 dq osq
          have gx0 := kx0 dq osq
          have gx1 := kx1 dq osq
          clear k0 k2 kb0 kb1 kx0 kx1 kz0 cc1 cc2 c0 c2 b0 b1 x0 x1 x2 x3 x4 z0
          generalize (Sort.grow (redrawn V dq) osq) = W6 at *
          go_wp2_with fail
          have k0 := cell_regrown g0
          have kb1 := cell_regrown gb1
          have kx0 := cell_regrown gx0
          have kx1 := cell_regrown gx1
          cases lw with
          | true =>
            have HF : Hid (openB n L ah d v (k : Int) = true) := HF0.out
            clear HF0
            refine wp_region_quiet_below (by kernel_rfl) (by kernel_rfl) ?_
            repeat (with_reducible refine wpQuiet_step (fun K hK => ?_); go_simp; first | (with_reducible refine hK _ ?_; clear hK K) | (rw [if_neg (by decide)]; with_reducible refine hK _ ?_; clear hK K))
            with_reducible refine wpQuiet_nil ?_
            intro _ hw'
            obtain ⟨⟨dq, osq⟩, hw''⟩ := hw'
            subst hw''
            have hb7 := hb1.trans ((below_regrown W6 dq osq).mono hb1.size)
            go_wp2_with fail
            go_ret
            exact ⟨ret_bool HF.out.symm, hb7⟩
          | false =>
            have HF : Hid (openB n L ah d v (k : Int) = (ls.toList == v.toList)) := by unfold Hid; rw [HF0.out]; rfl
            clear HF0
            refine wp_region_quiet_below (by kernel_rfl) (by kernel_rfl) ?_
            repeat (with_reducible refine wpQuiet_step (fun K hK => ?_); go_simp; first | (with_reducible refine hK _ ?_; clear hK K) | (rw [if_neg (by decide)]; with_reducible refine hK _ ?_; clear hK K))
            with_reducible refine wpQuiet_nil ?_
            intro _ hw'
            obtain ⟨⟨dq, osq⟩, hw''⟩ := hw'
            subst hw''
            have hb7 := hb1.trans ((below_regrown W6 dq osq).mono hb1.size)
            go_wp2_with fail
            go_ret
            exact ⟨ret_bool HF.out.symm, hb7⟩
        · have hz1 : (((bz : Nat) : Int) != 0) = true := by simpa using hz
          have HF : Hid (openB n L ah d v (k : Int) = false) := by unfold Hid; rw [HO.out, show (((bz : Nat) : Int) == 0) = false by simpa using hz]; rfl
          clear HO hz
          refine wp_region_quiet_below (by kernel_rfl) (by kernel_rfl) ?_
          repeat (with_reducible refine wpQuiet_step (fun K hK => ?_); go_simp; first | (with_reducible refine hK _ ?_; clear hK K) | (rw [if_neg (by decide)]; with_reducible refine hK _ ?_; clear hK K) | (apply Exists.intro; refine ⟨fun _ => ?_, hK _ ?_⟩; (first | (go_at_call 49; first | with_reducible exact cc1 _ _) | (go_at_call 50; first | with_reducible exact cc2 _ _)); clear hK K))
          with_reducible refine wpQuiet_nil ?_
          intro _ hw'
          obtain ⟨⟨dq, osq⟩, hw''⟩ := hw'
          subst hw''
          have hb1 := hb0.trans ((below_regrown V dq osq).mono hb0.size)
          go_wp2_with fail
          go_ret
          exact ⟨ret_bool HF.out.symm, hb1⟩

end Go.Proofs.Ytmfmjoibofadlaa.M
