/-
  Own text: contracts of the reference's Append and Read.
-/
import Derived.Test.YtcgpdaalehgjdaaRDo
import Derived.Lib.QuietBelow
namespace Go.Proofs.Ytcgpdaalehgjdaa.M
open Go.ChangeShapes Go.WideShapes Go.ChangeAt Go.RowKit

set_option maxRecDepth 20000 in
theorem rAppend_bad (w : World) (g : Nat) (i k : Int) (hk : (k != 0) = true) (q : Option Addr) (l c : Nat) (hM : Calls Try.prog 42 #[.pointer (some ⟨g, 0, none⟩), .int .i64 i] w fun e w' => e = .returned (.int .i64 k) ∧ w' = w) :
    Calls Try.prog 38 #[.pointer (some ⟨g, 0, none⟩), .int .i64 i, .slice q l c] w fun e w' => e = .returned (.int .i64 k) ∧ w' = w := by
  go_enter Try.func38, Try.ntmps38
  go_wp2_with fail
  refine hM.mono ?_
  rintro e w1 ⟨rfl, rfl⟩
  go_wp2_with fail
  go_ret
  exact ⟨rfl, rfl⟩

set_option maxRecDepth 20000 in
theorem rClear_bad (w : World) (g : Nat) (i k : Int) (hk : (k != 0) = true) (hM : Calls Try.prog 42 #[.pointer (some ⟨g, 0, none⟩), .int .i64 i] w fun e w' => e = .returned (.int .i64 k) ∧ w' = w) :
    Calls Try.prog 34 #[.pointer (some ⟨g, 0, none⟩), .int .i64 i] w fun e w' => e = .returned (.int .i64 k) ∧ w' = w := by
  go_enter Try.func34, Try.ntmps34
  go_wp2_with fail
  refine hM.mono ?_
  rintro e w1 ⟨rfl, rfl⟩
  go_wp2_with fail
  go_ret
  exact ⟨rfl, rfl⟩

set_option maxRecDepth 20000 in
theorem rSync_bad (w : World) (g : Nat) (i k : Int) (hk : (k != 0) = true) (hM : Calls Try.prog 42 #[.pointer (some ⟨g, 0, none⟩), .int .i64 i] w fun e w' => e = .returned (.int .i64 k) ∧ w' = w) :
    Calls Try.prog 35 #[.pointer (some ⟨g, 0, none⟩), .int .i64 i] w fun e w' => e = .returned (.int .i64 k) ∧ w' = w := by
  go_enter Try.func35, Try.ntmps35
  go_wp2_with fail
  refine hM.mono ?_
  rintro e w1 ⟨rfl, rfl⟩
  go_wp2_with fail
  go_ret
  exact ⟨rfl, rfl⟩

set_option maxRecDepth 20000 in
theorem rRead_bad (w : World) (g : Nat) (i k : Int) (hk : (k != 0) = true) (hM : Calls Try.prog 42 #[.pointer (some ⟨g, 0, none⟩), .int .i64 i] w fun e w' => e = .returned (.int .i64 k) ∧ w' = w) :
    Calls Try.prog 20 #[.pointer (some ⟨g, 0, none⟩), .int .i64 i] w fun e w' => e = .returned (.tuple #[.slice none 0 0, .int .i64 k]) ∧ w' = w := by
  go_enter Try.func20, Try.ntmps20
  go_wp2_with fail
  refine hM.mono ?_
  rintro e w1 ⟨rfl, rfl⟩
  go_wp2_with fail
  go_ret2
  exact ⟨rfl, rfl⟩

set_option maxRecDepth 20000 in
theorem rAppend_full (w : World) (g : Nat) (m : PD) (k : Sl) (h : RD w g m k) (s : Nat) (hm : m.ok s) (hs : s ≤ 549755813888) (hw : m.down = false) (i : Nat) (hi : i < 8) (q : Option Addr) (l c : Nat) (hl : l ≤ 16384) (hu : m.room < m.used + l) :
    Calls Try.prog 38 #[.pointer (some ⟨g, 0, none⟩), .int .i64 i, .slice q l c] w fun e w' => e = .returned (.int .i64 7) ∧ Below w.heap.size w w' := by
  have hM := rmay_any w g m k h.rc i
  rw [hw, if_neg (show ¬ (false = true) by decide), if_neg (by omega)] at hM
  have hmu : m.used ≤ 8 * 549755813888 := Nat.le_trans (used_le hm) (Nat.mul_le_mul_left 8 hs)
  have cU : ∀ dd os, Calls Try.prog 18 #[.pointer (some ⟨g, 0, none⟩)] (Sort.grow (redrawn w dd) os) fun e w'' => e = .returned (.int .i64 m.used) ∧ ∃ p : Regrown, w'' = Sort.grow (redrawn w p.d) p.os := fun dd os => Calls.regrown_of (rused_any _ g m k (h.rc.below (below_regrown _ _ _)) (fun j hj => Nat.le_trans (hm.told j hj) hs))
  have c24 := h.rc.room
  have k24 := cell_regrown c24
  clear h
  generalize m.used = mu at *
  generalize m.room = mr at *
  have hgt : ((mr : Int)) < (mu : Int) + (l : Int) := by omega
  have hwr : IntKind.i64.wrap ((mu : Int) + (l : Int)) = (mu : Int) + (l : Int) := by rw [IntKind.wrap_i64]; omega
  go_enter Try.func38, Try.ntmps38
  go_wp2_with fail
  refine hM.mono ?_
  rintro e w1 ⟨rfl, rfl⟩
  go_wp2_with fail
  refine wp_region_quiet_below (by kernel_rfl) (by kernel_rfl) ?_
  repeat (with_reducible refine wpQuiet_step (fun K hK => ?_); go_simp; first | (with_reducible refine hK _ ?_; clear hK K) | (apply Exists.intro; refine ⟨fun _ => ?_, hK _ ?_⟩; ((go_at_call 18; with_reducible exact cU _ _)); clear hK K))
  with_reducible refine wpQuiet_nil ?_
  intro _ hw'
  obtain ⟨⟨dq, osq⟩, hw''⟩ := hw'
  subst hw''
  have hbq := below_regrown w1 dq osq
  go_wp2_with fail
  go_ret
  exact ⟨rfl, hbq⟩


set_option maxRecDepth 20000 in
set_option maxHeartbeats 4000000 in
theorem rAppend_none (w : World) (g : Nat) (m : PD) (k : Sl) (h : RD w g m k) (s : Nat) (hm : m.ok s) (hs : s ≤ 1099511627) (hp : m.pre) (hw : m.down = false) (i : Nat) (hi : i < 8) (qb qo l c : Nat) (ys : List Int) (hy : Rd .u8 w (some ⟨qb, qo, none⟩) l c ys) (hqg : 0 < l → qb ≠ g) (hl : l ≤ 16384) (hu : ¬ m.room < m.used + l) (h0 : m.left = 0) :
    Calls Try.prog 38 #[.pointer (some ⟨g, 0, none⟩), .int .i64 i, .slice (some ⟨qb, qo, none⟩) l c] w fun e w' => e = .returned (.int .i64 (goneE (m.gone l))) ∧ RAfter g k w w' (m.putAt i ys) := by
  have _ := hp
  have _ := hqg
  have hM := rmay_any w g m k h.rc i
  rw [hw, if_neg (show ¬ (false = true) by decide), if_neg (by omega)] at hM
  have hmu : m.used ≤ 8 * 1099511627 := Nat.le_trans (used_le hm) (Nat.mul_le_mul_left 8 hs)
  have cU : ∀ dd os, Calls Try.prog 18 #[.pointer (some ⟨g, 0, none⟩)] (Sort.grow (redrawn w dd) os) fun e w'' => e = .returned (.int .i64 m.used) ∧ ∃ p : Regrown, w'' = Sort.grow (redrawn w p.d) p.os := fun dd os => Calls.regrown_of (rused_any _ g m k (h.rc.below (below_regrown _ _ _)) (fun j hj => by have := hm.told j hj; omega))
  have c24 := h.rc.room
  have k24 := cell_regrown c24
  have hle : ¬ ((m.room : Int)) < (m.used : Int) + (l : Int) := by omega
  have hwr : IntKind.i64.wrap ((m.used : Int) + (l : Int)) = (m.used : Int) + (l : Int) := by rw [IntKind.wrap_i64]; omega
  have hly := hy.len
  have HA : Hid (m.putAt i ys = { m with f := upP m.f i { m.f i with told := (m.f i).told ++ ys.take l } }) := by unfold Hid PD.putAt; rw [hly]; exact act_of0 m l _ h0
  have HG : Hid (m.gone l = false) := decide_eq_false (by omega)
  have hlm := hm.left
  go_enter Try.func38, Try.ntmps38
  go_wp2_with fail
  refine hM.mono ?_
  rintro e w1 ⟨rfl, rfl⟩
  go_wp2_with fail
  refine wp_region_quiet_below (by kernel_rfl) (by kernel_rfl) ?_
  repeat (with_reducible refine wpQuiet_step (fun K hK => ?_); go_simp; first | (with_reducible refine hK _ ?_; clear hK K) | (apply Exists.intro; refine ⟨fun _ => ?_, hK _ ?_⟩; ((go_at_call 18; with_reducible exact cU _ _)); clear hK K))
  with_reducible refine wpQuiet_nil ?_
  intro _ hw'
  obtain ⟨⟨dq, osq⟩, hw''⟩ := hw'
  subst hw''
  have hbq := below_regrown w1 dq osq
  have h2 := h.below hbq
  have hy2 := hy.below' hbq
  clear cU k24 c24 hM
  generalize Sort.grow (redrawn w1 dq) osq = w2 at *
  have hB := rburn_none w2 g m k h2.rc h0 l
  go_wp2_with fail
  refine hB.mono ?_
  rintro e w3 ⟨rfl, rfl⟩
  have hR3 := h2.rc
  have hy3 := hy2
  have c0 := hR3.told hi
  have f0 := hR3.free (i * 3)
  have hcap := hy.cap
  have hNl : l ≤ l := Nat.le_refl _
  have hcv := (hy3.take hNl).conv (P := Try.prog) 32 5 9 Try.underlying32 Try.underlying5 Try.underlying9
  have hcd := ((hy3.below' ((Below.refl _ _).drew)).take hNl).conv (P := Try.prog) 32 5 9 Try.underlying32 Try.underlying5 Try.underlying9
  have hsz1 : (strOfNums (m.f i).told).size = (m.f i).told.length := strOfNums_size _
  have hsz2 : (strOfNums (ys.take l)).size = (ys.take l).length := strOfNums_size _
  have happ : strOfNums (m.f i).told ++ strOfNums (ys.take l) = strOfNums ((m.f i).told ++ ys.take l) := str_app _ _
  have hle2 : (ys.take l).length ≤ 16384 := Nat.le_trans (List.length_take_le' _ _) (by omega)
  have hto : (m.f i).told.length ≤ 1099511627 := Nat.le_trans (hm.told i hi) hs
  have hRS := (hR3.setTold hi ((m.f i).told ++ ys.take l)).below ((Below.refl _ _).drew)
  have hcS := (Ch.setCell w3 ⟨g, i * 3, none⟩ (.string (strOfNums ((m.f i).told ++ ys.take l)))).trans (Ch.of_below ((Below.refl _ _).drew) _)
  dsimp only at hRS hcS
  clear hB hy hy2 hy3 hR3
  have hfin := (RAfter.mend h2 hcS hRS rfl).before hbq
  clear hRS h h2 hp
  generalize (m.f i) = fl at *
  obtain ⟨ft, fls, fc⟩ := fl
  dsimp only at *
  go_wp2_with fail
  go_region
  go_wp2_with fail
  go_ret
  exact ⟨by rw [HG.out]; rfl, by rw [HA.out]; exact hfin⟩

set_option maxRecDepth 20000 in
set_option maxHeartbeats 4000000 in
theorem rAppend_out (w : World) (g : Nat) (m : PD) (k : Sl) (h : RD w g m k) (s : Nat) (hm : m.ok s) (hs : s ≤ 1099511627) (hp : m.pre) (hw : m.down = false) (i : Nat) (hi : i < 8) (qb qo l c : Nat) (ys : List Int) (hy : Rd .u8 w (some ⟨qb, qo, none⟩) l c ys) (hqg : 0 < l → qb ≠ g) (hl : l ≤ 16384) (hu : ¬ m.room < m.used + l) (h0 : m.left ≠ 0) (h1 : m.left ≤ l) :
    Calls Try.prog 38 #[.pointer (some ⟨g, 0, none⟩), .int .i64 i, .slice (some ⟨qb, qo, none⟩) l c] w fun e w' => e = .returned (.int .i64 (goneE (m.gone l))) ∧ RAfter g k w w' (m.putAt i ys) := by
  have _ := hp
  have _ := hqg
  have hM := rmay_any w g m k h.rc i
  rw [hw, if_neg (show ¬ (false = true) by decide), if_neg (by omega)] at hM
  have hmu : m.used ≤ 8 * 1099511627 := Nat.le_trans (used_le hm) (Nat.mul_le_mul_left 8 hs)
  have cU : ∀ dd os, Calls Try.prog 18 #[.pointer (some ⟨g, 0, none⟩)] (Sort.grow (redrawn w dd) os) fun e w'' => e = .returned (.int .i64 m.used) ∧ ∃ p : Regrown, w'' = Sort.grow (redrawn w p.d) p.os := fun dd os => Calls.regrown_of (rused_any _ g m k (h.rc.below (below_regrown _ _ _)) (fun j hj => by have := hm.told j hj; omega))
  have c24 := h.rc.room
  have k24 := cell_regrown c24
  have hle : ¬ ((m.room : Int)) < (m.used : Int) + (l : Int) := by omega
  have hwr : IntKind.i64.wrap ((m.used : Int) + (l : Int)) = (m.used : Int) + (l : Int) := by rw [IntKind.wrap_i64]; omega
  have hly := hy.len
  have HA : Hid (m.putAt i ys = ({ m with f := upP m.f i { m.f i with told := (m.f i).told ++ ys.take m.left } } : PD).fall m.keep) := by unfold Hid PD.putAt; rw [hly]; exact act_of1 m l _ h0 h1
  have HG : Hid (m.gone l = true) := decide_eq_true (by omega)
  have hlm := hm.left
  go_enter Try.func38, Try.ntmps38
  go_wp2_with fail
  refine hM.mono ?_
  rintro e w1 ⟨rfl, rfl⟩
  go_wp2_with fail
  refine wp_region_quiet_below (by kernel_rfl) (by kernel_rfl) ?_
  repeat (with_reducible refine wpQuiet_step (fun K hK => ?_); go_simp; first | (with_reducible refine hK _ ?_; clear hK K) | (apply Exists.intro; refine ⟨fun _ => ?_, hK _ ?_⟩; ((go_at_call 18; with_reducible exact cU _ _)); clear hK K))
  with_reducible refine wpQuiet_nil ?_
  intro _ hw'
  obtain ⟨⟨dq, osq⟩, hw''⟩ := hw'
  subst hw''
  have hbq := below_regrown w1 dq osq
  have h2 := h.below hbq
  have hy2 := hy.below' hbq
  clear cU k24 c24 hM
  generalize Sort.grow (redrawn w1 dq) osq = w2 at *
  have hB := rburn_out w2 g m k h2.rc (by omega) l h1
  go_wp2_with fail
  refine hB.mono ?_
  rintro e w3 ⟨rfl, rfl⟩
  have hR3 := h2.rc
  have hy3 := hy2
  have c0 := hR3.told hi
  have f0 := hR3.free (i * 3)
  have hcap := hy.cap
  have hNl : m.left ≤ l := h1
  have hcv := (hy3.take hNl).conv (P := Try.prog) 32 5 9 Try.underlying32 Try.underlying5 Try.underlying9
  have hcd := ((hy3.below' ((Below.refl _ _).drew)).take hNl).conv (P := Try.prog) 32 5 9 Try.underlying32 Try.underlying5 Try.underlying9
  have hsz1 : (strOfNums (m.f i).told).size = (m.f i).told.length := strOfNums_size _
  have hsz2 : (strOfNums (ys.take m.left)).size = (ys.take m.left).length := strOfNums_size _
  have happ : strOfNums (m.f i).told ++ strOfNums (ys.take m.left) = strOfNums ((m.f i).told ++ ys.take m.left) := str_app _ _
  have hle2 : (ys.take m.left).length ≤ 16384 := Nat.le_trans (List.length_take_le' _ _) (by omega)
  have hto : (m.f i).told.length ≤ 1099511627 := Nat.le_trans (hm.told i hi) hs
  have hRS := (hR3.setTold hi ((m.f i).told ++ ys.take m.left)).below ((Below.refl _ _).drew)
  have hcS := (Ch.setCell w3 ⟨g, i * 3, none⟩ (.string (strOfNums ((m.f i).told ++ ys.take m.left)))).trans (Ch.of_below ((Below.refl _ _).drew) _)
  dsimp only at hRS hcS
  clear hB hy hy2 hy3 hR3
  have hck := hRS.keep
  have hrk := (h2.keep.ch0 hcS h2.ne)
  have hkl := h2.keep.len
  have hmk := hm.keep
  have hF := rfall_any _ g _ k hRS k.p k.n k.c m.keep hrk (by omega) h2.ne (fun j hj => Nat.le_trans (hm.up (Nat.le_add_right s 16384) i { m.f i with told := (m.f i).told ++ ys.take m.left } (by dsimp only; rw [List.length_append]; have := hm.told i hi; omega) (by dsimp only; have := hm.lasts i hi; omega) j hj).1 (by omega)) (fun j hj => by
    show (upP m.f i _ j).cl = false → (upP m.f i _ j).lasts <+: (upP m.f i _ j).told
    by_cases e : j = i
    · rw [e, upP_same]
      exact fun e2 => (hp i hi e2).trans (List.prefix_append _ _)
    · rw [upP_other _ _ e]
      exact hp j hj)
  clear hRS h h2 hp hrk
  generalize (m.f i) = fl at *
  obtain ⟨ft, fls, fc⟩ := fl
  obtain ⟨k1, k2, k3⟩ := k
  dsimp only at *
  go_wp2_with fail
  go_region
  go_wp2_with fail
  refine hF.mono ?_
  rintro e w4 ⟨rfl, hR4, hc4⟩
  have hfin := (RAfter.fell (k := ⟨k1, k2, k3⟩) (hcS.trans hc4) hR4 rfl).before hbq
  clear hR4
  go_wp2_with fail
  go_ret
  exact ⟨by rw [HG.out]; rfl, by rw [HA.out]; exact hfin⟩

set_option maxRecDepth 20000 in
set_option maxHeartbeats 4000000 in
theorem rAppend_on (w : World) (g : Nat) (m : PD) (k : Sl) (h : RD w g m k) (s : Nat) (hm : m.ok s) (hs : s ≤ 1099511627) (hp : m.pre) (hw : m.down = false) (i : Nat) (hi : i < 8) (qb qo l c : Nat) (ys : List Int) (hy : Rd .u8 w (some ⟨qb, qo, none⟩) l c ys) (hqg : 0 < l → qb ≠ g) (hl : l ≤ 16384) (hu : ¬ m.room < m.used + l) (h0 : m.left ≠ 0) (h1 : ¬ m.left ≤ l) :
    Calls Try.prog 38 #[.pointer (some ⟨g, 0, none⟩), .int .i64 i, .slice (some ⟨qb, qo, none⟩) l c] w fun e w' => e = .returned (.int .i64 (goneE (m.gone l))) ∧ RAfter g k w w' (m.putAt i ys) := by
  have _ := hp
  have _ := hqg
  have hM := rmay_any w g m k h.rc i
  rw [hw, if_neg (show ¬ (false = true) by decide), if_neg (by omega)] at hM
  have hmu : m.used ≤ 8 * 1099511627 := Nat.le_trans (used_le hm) (Nat.mul_le_mul_left 8 hs)
  have cU : ∀ dd os, Calls Try.prog 18 #[.pointer (some ⟨g, 0, none⟩)] (Sort.grow (redrawn w dd) os) fun e w'' => e = .returned (.int .i64 m.used) ∧ ∃ p : Regrown, w'' = Sort.grow (redrawn w p.d) p.os := fun dd os => Calls.regrown_of (rused_any _ g m k (h.rc.below (below_regrown _ _ _)) (fun j hj => by have := hm.told j hj; omega))
  have c24 := h.rc.room
  have k24 := cell_regrown c24
  have hle : ¬ ((m.room : Int)) < (m.used : Int) + (l : Int) := by omega
  have hwr : IntKind.i64.wrap ((m.used : Int) + (l : Int)) = (m.used : Int) + (l : Int) := by rw [IntKind.wrap_i64]; omega
  have hly := hy.len
  have HA : Hid (m.putAt i ys = { m with left := m.left - l, f := upP m.f i { m.f i with told := (m.f i).told ++ ys.take l } }) := by unfold Hid PD.putAt; rw [hly]; exact act_of2 m l _ h0 h1
  have HG : Hid (m.gone l = false) := decide_eq_false (by omega)
  have hlm := hm.left
  go_enter Try.func38, Try.ntmps38
  go_wp2_with fail
  refine hM.mono ?_
  rintro e w1 ⟨rfl, rfl⟩
  go_wp2_with fail
  refine wp_region_quiet_below (by kernel_rfl) (by kernel_rfl) ?_
  repeat (with_reducible refine wpQuiet_step (fun K hK => ?_); go_simp; first | (with_reducible refine hK _ ?_; clear hK K) | (apply Exists.intro; refine ⟨fun _ => ?_, hK _ ?_⟩; ((go_at_call 18; with_reducible exact cU _ _)); clear hK K))
  with_reducible refine wpQuiet_nil ?_
  intro _ hw'
  obtain ⟨⟨dq, osq⟩, hw''⟩ := hw'
  subst hw''
  have hbq := below_regrown w1 dq osq
  have h2 := h.below hbq
  have hy2 := hy.below' hbq
  clear cU k24 c24 hM
  generalize Sort.grow (redrawn w1 dq) osq = w2 at *
  have hB := rburn_on w2 g m k h2.rc l (by omega) hlm
  go_wp2_with fail
  refine hB.mono ?_
  rintro e w3 ⟨rfl, hw3⟩
  have hc3 := Ch.setCell w2 ⟨g, 26, none⟩ (.int .i64 ((m.left - l : Nat) : Int))
  have hR3 := h2.rc.setLeft (m.left - l)
  have hy3 := hy2.ch0 hc3 (fun x e h0 => by cases e; exact hqg h0)
  rw [← hw3] at hc3 hR3 hy3
  dsimp only at hc3
  clear hw3
  have c0 := hR3.told hi
  have f0 := hR3.free (i * 3)
  have hcap := hy.cap
  have hNl : l ≤ l := Nat.le_refl _
  have hcv := (hy3.take hNl).conv (P := Try.prog) 32 5 9 Try.underlying32 Try.underlying5 Try.underlying9
  have hcd := ((hy3.below' ((Below.refl _ _).drew)).take hNl).conv (P := Try.prog) 32 5 9 Try.underlying32 Try.underlying5 Try.underlying9
  have hsz1 : (strOfNums (m.f i).told).size = (m.f i).told.length := strOfNums_size _
  have hsz2 : (strOfNums (ys.take l)).size = (ys.take l).length := strOfNums_size _
  have happ : strOfNums (m.f i).told ++ strOfNums (ys.take l) = strOfNums ((m.f i).told ++ ys.take l) := str_app _ _
  have hle2 : (ys.take l).length ≤ 16384 := Nat.le_trans (List.length_take_le' _ _) (by omega)
  have hto : (m.f i).told.length ≤ 1099511627 := Nat.le_trans (hm.told i hi) hs
  have hRS := (hR3.setTold hi ((m.f i).told ++ ys.take l)).below ((Below.refl _ _).drew)
  have hcS := (Ch.setCell w3 ⟨g, i * 3, none⟩ (.string (strOfNums ((m.f i).told ++ ys.take l)))).trans (Ch.of_below ((Below.refl _ _).drew) _)
  dsimp only at hRS hcS
  clear hB hy hy2 hy3 hR3
  have hfin := (RAfter.mend h2 (hc3.trans hcS) hRS rfl).before hbq
  clear hRS h h2 hp
  generalize (m.f i) = fl at *
  obtain ⟨ft, fls, fc⟩ := fl
  dsimp only at *
  go_wp2_with fail
  go_region
  go_wp2_with fail
  go_ret
  exact ⟨by rw [HG.out]; rfl, by rw [HA.out]; exact hfin⟩

set_option maxRecDepth 20000 in
set_option maxHeartbeats 4000000 in
theorem rAppendN_none (w : World) (g : Nat) (m : PD) (k : Sl) (h : RD w g m k) (s : Nat) (hm : m.ok s) (hs : s ≤ 1099511627) (hp : m.pre) (hw : m.down = false) (i : Nat) (hi : i < 8) (hy : Rd .u8 w none 0 0 []) (hu : ¬ m.room < m.used + 0) (h0 : m.left = 0) :
    Calls Try.prog 38 #[.pointer (some ⟨g, 0, none⟩), .int .i64 i, .slice none 0 0] w fun e w' => e = .returned (.int .i64 (goneE (m.gone 0))) ∧ RAfter g k w w' (m.putAt i ([] : List Int)) := by
  have _ := hp
  have hM := rmay_any w g m k h.rc i
  rw [hw, if_neg (show ¬ (false = true) by decide), if_neg (by omega)] at hM
  have hmu : m.used ≤ 8 * 1099511627 := Nat.le_trans (used_le hm) (Nat.mul_le_mul_left 8 hs)
  have cU : ∀ dd os, Calls Try.prog 18 #[.pointer (some ⟨g, 0, none⟩)] (Sort.grow (redrawn w dd) os) fun e w'' => e = .returned (.int .i64 m.used) ∧ ∃ p : Regrown, w'' = Sort.grow (redrawn w p.d) p.os := fun dd os => Calls.regrown_of (rused_any _ g m k (h.rc.below (below_regrown _ _ _)) (fun j hj => by have := hm.told j hj; omega))
  have c24 := h.rc.room
  have k24 := cell_regrown c24
  have hle : ¬ ((m.room : Int)) < (m.used : Int) := by omega
  have hwr : IntKind.i64.wrap (m.used : Int) = (m.used : Int) := by rw [IntKind.wrap_i64]; omega
  have hly := hy.len
  have HA : Hid (m.putAt i ([] : List Int) = { m with f := upP m.f i { m.f i with told := (m.f i).told } }) := by unfold Hid PD.putAt; rw [hly, act_of0 m 0 _ h0]; simp
  have HG : Hid (m.gone 0 = false) := decide_eq_false (by omega)
  have hlm := hm.left
  go_enter Try.func38, Try.ntmps38
  go_wp2_with fail
  refine hM.mono ?_
  rintro e w1 ⟨rfl, rfl⟩
  go_wp2_with fail
  refine wp_region_quiet_below (by kernel_rfl) (by kernel_rfl) ?_
  repeat (with_reducible refine wpQuiet_step (fun K hK => ?_); go_simp; first | (with_reducible refine hK _ ?_; clear hK K) | (apply Exists.intro; refine ⟨fun _ => ?_, hK _ ?_⟩; ((go_at_call 18; with_reducible exact cU _ _)); clear hK K))
  with_reducible refine wpQuiet_nil ?_
  intro _ hw'
  obtain ⟨⟨dq, osq⟩, hw''⟩ := hw'
  subst hw''
  have hbq := below_regrown w1 dq osq
  have h2 := h.below hbq
  have hy2 := hy.below' hbq
  clear cU k24 c24 hM
  generalize Sort.grow (redrawn w1 dq) osq = w2 at *
  have hB := rburn_none w2 g m k h2.rc h0 0
  go_wp2_with fail
  refine hB.mono ?_
  rintro e w3 ⟨rfl, rfl⟩
  have hR3 := h2.rc
  have hy3 := hy2
  have c0 := hR3.told hi
  have f0 := hR3.free (i * 3)
  have hcap := hy.cap
  have hNl : 0 ≤ 0 := Nat.le_refl _
  have hcv := (hy3.take hNl).conv (P := Try.prog) 32 5 9 Try.underlying32 Try.underlying5 Try.underlying9
  have hcd := ((hy3.below' ((Below.refl _ _).drew)).take hNl).conv (P := Try.prog) 32 5 9 Try.underlying32 Try.underlying5 Try.underlying9
  have hsz1 : (strOfNums (m.f i).told).size = (m.f i).told.length := strOfNums_size _
  have hsz2 : (strOfNums ([] : List Int)).size = 0 := rfl
  have happ : strOfNums (m.f i).told ++ strOfNums ([] : List Int) = strOfNums (m.f i).told := by rw [str_app, List.append_nil]
  have hle2 : (([] : List Int).take 0).length ≤ 16384 := Nat.le_trans (List.length_take_le' _ _) (by omega)
  have hto : (m.f i).told.length ≤ 1099511627 := Nat.le_trans (hm.told i hi) hs
  have hRS := (hR3.setTold hi ((m.f i).told)).below ((Below.refl _ _).drew)
  have hcS := (Ch.setCell w3 ⟨g, i * 3, none⟩ (.string (strOfNums ((m.f i).told)))).trans (Ch.of_below ((Below.refl _ _).drew) _)
  dsimp only at hRS hcS
  clear hB hy hy2 hy3 hR3
  have hfin := (RAfter.mend h2 hcS hRS rfl).before hbq
  clear hRS h h2 hp
  generalize (m.f i) = fl at *
  obtain ⟨ft, fls, fc⟩ := fl
  dsimp only at *
  go_wp2_with fail
  go_region
  go_wp2_with fail
  go_ret
  exact ⟨by rw [HG.out]; rfl, by rw [HA.out]; exact hfin⟩

set_option maxRecDepth 20000 in
set_option maxHeartbeats 4000000 in
theorem rAppendN_on (w : World) (g : Nat) (m : PD) (k : Sl) (h : RD w g m k) (s : Nat) (hm : m.ok s) (hs : s ≤ 1099511627) (hp : m.pre) (hw : m.down = false) (i : Nat) (hi : i < 8) (hy : Rd .u8 w none 0 0 []) (hu : ¬ m.room < m.used + 0) (h0 : m.left ≠ 0) (h1 : ¬ m.left ≤ 0) :
    Calls Try.prog 38 #[.pointer (some ⟨g, 0, none⟩), .int .i64 i, .slice none 0 0] w fun e w' => e = .returned (.int .i64 (goneE (m.gone 0))) ∧ RAfter g k w w' (m.putAt i ([] : List Int)) := by
  have _ := hp
  have hM := rmay_any w g m k h.rc i
  rw [hw, if_neg (show ¬ (false = true) by decide), if_neg (by omega)] at hM
  have hmu : m.used ≤ 8 * 1099511627 := Nat.le_trans (used_le hm) (Nat.mul_le_mul_left 8 hs)
  have cU : ∀ dd os, Calls Try.prog 18 #[.pointer (some ⟨g, 0, none⟩)] (Sort.grow (redrawn w dd) os) fun e w'' => e = .returned (.int .i64 m.used) ∧ ∃ p : Regrown, w'' = Sort.grow (redrawn w p.d) p.os := fun dd os => Calls.regrown_of (rused_any _ g m k (h.rc.below (below_regrown _ _ _)) (fun j hj => by have := hm.told j hj; omega))
  have c24 := h.rc.room
  have k24 := cell_regrown c24
  have hle : ¬ ((m.room : Int)) < (m.used : Int) := by omega
  have hwr : IntKind.i64.wrap (m.used : Int) = (m.used : Int) := by rw [IntKind.wrap_i64]; omega
  have hly := hy.len
  have HA : Hid (m.putAt i ([] : List Int) = { m with left := m.left - 0, f := upP m.f i { m.f i with told := (m.f i).told } }) := by unfold Hid PD.putAt; rw [hly, act_of2 m 0 _ h0 h1]; simp
  have HG : Hid (m.gone 0 = false) := decide_eq_false (by omega)
  have hlm := hm.left
  go_enter Try.func38, Try.ntmps38
  go_wp2_with fail
  refine hM.mono ?_
  rintro e w1 ⟨rfl, rfl⟩
  go_wp2_with fail
  refine wp_region_quiet_below (by kernel_rfl) (by kernel_rfl) ?_
  repeat (with_reducible refine wpQuiet_step (fun K hK => ?_); go_simp; first | (with_reducible refine hK _ ?_; clear hK K) | (apply Exists.intro; refine ⟨fun _ => ?_, hK _ ?_⟩; ((go_at_call 18; with_reducible exact cU _ _)); clear hK K))
  with_reducible refine wpQuiet_nil ?_
  intro _ hw'
  obtain ⟨⟨dq, osq⟩, hw''⟩ := hw'
  subst hw''
  have hbq := below_regrown w1 dq osq
  have h2 := h.below hbq
  have hy2 := hy.below' hbq
  clear cU k24 c24 hM
  generalize Sort.grow (redrawn w1 dq) osq = w2 at *
  have hB := rburn_on w2 g m k h2.rc 0 (by omega) hlm
  go_wp2_with fail
  refine hB.mono ?_
  rintro e w3 ⟨rfl, hw3⟩
  have hc3 := Ch.setCell w2 ⟨g, 26, none⟩ (.int .i64 ((m.left - 0 : Nat) : Int))
  have hR3 := h2.rc.setLeft (m.left - 0)
  have hy3 := hy2.ch0 hc3 (fun x e h0 => absurd h0 (Nat.lt_irrefl _))
  rw [← hw3] at hc3 hR3 hy3
  dsimp only at hc3
  clear hw3
  have c0 := hR3.told hi
  have f0 := hR3.free (i * 3)
  have hcap := hy.cap
  have hNl : 0 ≤ 0 := Nat.le_refl _
  have hcv := (hy3.take hNl).conv (P := Try.prog) 32 5 9 Try.underlying32 Try.underlying5 Try.underlying9
  have hcd := ((hy3.below' ((Below.refl _ _).drew)).take hNl).conv (P := Try.prog) 32 5 9 Try.underlying32 Try.underlying5 Try.underlying9
  have hsz1 : (strOfNums (m.f i).told).size = (m.f i).told.length := strOfNums_size _
  have hsz2 : (strOfNums ([] : List Int)).size = 0 := rfl
  have happ : strOfNums (m.f i).told ++ strOfNums ([] : List Int) = strOfNums (m.f i).told := by rw [str_app, List.append_nil]
  have hle2 : (([] : List Int).take 0).length ≤ 16384 := Nat.le_trans (List.length_take_le' _ _) (by omega)
  have hto : (m.f i).told.length ≤ 1099511627 := Nat.le_trans (hm.told i hi) hs
  have hRS := (hR3.setTold hi ((m.f i).told)).below ((Below.refl _ _).drew)
  have hcS := (Ch.setCell w3 ⟨g, i * 3, none⟩ (.string (strOfNums ((m.f i).told)))).trans (Ch.of_below ((Below.refl _ _).drew) _)
  dsimp only at hRS hcS
  clear hB hy hy2 hy3 hR3
  have hfin := (RAfter.mend h2 (hc3.trans hcS) hRS rfl).before hbq
  clear hRS h h2 hp
  generalize (m.f i) = fl at *
  obtain ⟨ft, fls, fc⟩ := fl
  dsimp only at *
  go_wp2_with fail
  go_region
  go_wp2_with fail
  go_ret
  exact ⟨by rw [HG.out]; rfl, by rw [HA.out]; exact hfin⟩

set_option maxRecDepth 20000 in
set_option maxHeartbeats 4000000 in
theorem rAppendS_none (w : World) (g : Nat) (m : PD) (k : Sl) (h : RD w g m k) (s : Nat) (hm : m.ok s) (hs : s ≤ 1099511627) (hp : m.pre) (hw : m.down = false) (i : Nat) (hi : i < 8) (ad : Addr) (c : Nat) (hy : Rd .u8 w (some ad) 0 c []) (hu : ¬ m.room < m.used + 0) (h0 : m.left = 0) :
    Calls Try.prog 38 #[.pointer (some ⟨g, 0, none⟩), .int .i64 i, .slice (some ad) 0 c] w fun e w' => e = .returned (.int .i64 (goneE (m.gone 0))) ∧ RAfter g k w w' (m.putAt i ([] : List Int)) := by
  have _ := hp
  have hM := rmay_any w g m k h.rc i
  rw [hw, if_neg (show ¬ (false = true) by decide), if_neg (by omega)] at hM
  have hmu : m.used ≤ 8 * 1099511627 := Nat.le_trans (used_le hm) (Nat.mul_le_mul_left 8 hs)
  have cU : ∀ dd os, Calls Try.prog 18 #[.pointer (some ⟨g, 0, none⟩)] (Sort.grow (redrawn w dd) os) fun e w'' => e = .returned (.int .i64 m.used) ∧ ∃ p : Regrown, w'' = Sort.grow (redrawn w p.d) p.os := fun dd os => Calls.regrown_of (rused_any _ g m k (h.rc.below (below_regrown _ _ _)) (fun j hj => by have := hm.told j hj; omega))
  have c24 := h.rc.room
  have k24 := cell_regrown c24
  have hle : ¬ ((m.room : Int)) < (m.used : Int) := by omega
  have hwr : IntKind.i64.wrap (m.used : Int) = (m.used : Int) := by rw [IntKind.wrap_i64]; omega
  have hly := hy.len
  have HA : Hid (m.putAt i ([] : List Int) = { m with f := upP m.f i { m.f i with told := (m.f i).told } }) := by unfold Hid PD.putAt; rw [hly, act_of0 m 0 _ h0]; simp
  have HG : Hid (m.gone 0 = false) := decide_eq_false (by omega)
  have hlm := hm.left
  go_enter Try.func38, Try.ntmps38
  go_wp2_with fail
  refine hM.mono ?_
  rintro e w1 ⟨rfl, rfl⟩
  go_wp2_with fail
  refine wp_region_quiet_below (by kernel_rfl) (by kernel_rfl) ?_
  repeat (with_reducible refine wpQuiet_step (fun K hK => ?_); go_simp; first | (with_reducible refine hK _ ?_; clear hK K) | (apply Exists.intro; refine ⟨fun _ => ?_, hK _ ?_⟩; ((go_at_call 18; with_reducible exact cU _ _)); clear hK K))
  with_reducible refine wpQuiet_nil ?_
  intro _ hw'
  obtain ⟨⟨dq, osq⟩, hw''⟩ := hw'
  subst hw''
  have hbq := below_regrown w1 dq osq
  have h2 := h.below hbq
  have hy2 := hy.below' hbq
  clear cU k24 c24 hM
  generalize Sort.grow (redrawn w1 dq) osq = w2 at *
  have hB := rburn_none w2 g m k h2.rc h0 0
  go_wp2_with fail
  refine hB.mono ?_
  rintro e w3 ⟨rfl, rfl⟩
  have hR3 := h2.rc
  have hy3 := hy2
  have c0 := hR3.told hi
  have f0 := hR3.free (i * 3)
  have hcap := hy.cap
  have hNl : 0 ≤ 0 := Nat.le_refl _
  have hcv := (hy3.take hNl).conv (P := Try.prog) 32 5 9 Try.underlying32 Try.underlying5 Try.underlying9
  have hcd := ((hy3.below' ((Below.refl _ _).drew)).take hNl).conv (P := Try.prog) 32 5 9 Try.underlying32 Try.underlying5 Try.underlying9
  have hsz1 : (strOfNums (m.f i).told).size = (m.f i).told.length := strOfNums_size _
  have hsz2 : (strOfNums ([] : List Int)).size = 0 := rfl
  have happ : strOfNums (m.f i).told ++ strOfNums ([] : List Int) = strOfNums (m.f i).told := by rw [str_app, List.append_nil]
  have hle2 : (([] : List Int).take 0).length ≤ 16384 := Nat.le_trans (List.length_take_le' _ _) (by omega)
  have hto : (m.f i).told.length ≤ 1099511627 := Nat.le_trans (hm.told i hi) hs
  have hRS := (hR3.setTold hi ((m.f i).told)).below ((Below.refl _ _).drew)
  have hcS := (Ch.setCell w3 ⟨g, i * 3, none⟩ (.string (strOfNums ((m.f i).told)))).trans (Ch.of_below ((Below.refl _ _).drew) _)
  dsimp only at hRS hcS
  clear hB hy hy2 hy3 hR3
  have hfin := (RAfter.mend h2 hcS hRS rfl).before hbq
  clear hRS h h2 hp
  generalize (m.f i) = fl at *
  obtain ⟨ft, fls, fc⟩ := fl
  dsimp only at *
  go_wp2_with fail
  go_region
  go_wp2_with fail
  go_ret
  exact ⟨by rw [HG.out]; rfl, by rw [HA.out]; exact hfin⟩

set_option maxRecDepth 20000 in
set_option maxHeartbeats 4000000 in
theorem rAppendS_on (w : World) (g : Nat) (m : PD) (k : Sl) (h : RD w g m k) (s : Nat) (hm : m.ok s) (hs : s ≤ 1099511627) (hp : m.pre) (hw : m.down = false) (i : Nat) (hi : i < 8) (ad : Addr) (c : Nat) (hy : Rd .u8 w (some ad) 0 c []) (hu : ¬ m.room < m.used + 0) (h0 : m.left ≠ 0) (h1 : ¬ m.left ≤ 0) :
    Calls Try.prog 38 #[.pointer (some ⟨g, 0, none⟩), .int .i64 i, .slice (some ad) 0 c] w fun e w' => e = .returned (.int .i64 (goneE (m.gone 0))) ∧ RAfter g k w w' (m.putAt i ([] : List Int)) := by
  have _ := hp
  have hM := rmay_any w g m k h.rc i
  rw [hw, if_neg (show ¬ (false = true) by decide), if_neg (by omega)] at hM
  have hmu : m.used ≤ 8 * 1099511627 := Nat.le_trans (used_le hm) (Nat.mul_le_mul_left 8 hs)
  have cU : ∀ dd os, Calls Try.prog 18 #[.pointer (some ⟨g, 0, none⟩)] (Sort.grow (redrawn w dd) os) fun e w'' => e = .returned (.int .i64 m.used) ∧ ∃ p : Regrown, w'' = Sort.grow (redrawn w p.d) p.os := fun dd os => Calls.regrown_of (rused_any _ g m k (h.rc.below (below_regrown _ _ _)) (fun j hj => by have := hm.told j hj; omega))
  have c24 := h.rc.room
  have k24 := cell_regrown c24
  have hle : ¬ ((m.room : Int)) < (m.used : Int) := by omega
  have hwr : IntKind.i64.wrap (m.used : Int) = (m.used : Int) := by rw [IntKind.wrap_i64]; omega
  have hly := hy.len
  have HA : Hid (m.putAt i ([] : List Int) = { m with left := m.left - 0, f := upP m.f i { m.f i with told := (m.f i).told } }) := by unfold Hid PD.putAt; rw [hly, act_of2 m 0 _ h0 h1]; simp
  have HG : Hid (m.gone 0 = false) := decide_eq_false (by omega)
  have hlm := hm.left
  go_enter Try.func38, Try.ntmps38
  go_wp2_with fail
  refine hM.mono ?_
  rintro e w1 ⟨rfl, rfl⟩
  go_wp2_with fail
  refine wp_region_quiet_below (by kernel_rfl) (by kernel_rfl) ?_
  repeat (with_reducible refine wpQuiet_step (fun K hK => ?_); go_simp; first | (with_reducible refine hK _ ?_; clear hK K) | (apply Exists.intro; refine ⟨fun _ => ?_, hK _ ?_⟩; ((go_at_call 18; with_reducible exact cU _ _)); clear hK K))
  with_reducible refine wpQuiet_nil ?_
  intro _ hw'
  obtain ⟨⟨dq, osq⟩, hw''⟩ := hw'
  subst hw''
  have hbq := below_regrown w1 dq osq
  have h2 := h.below hbq
  have hy2 := hy.below' hbq
  clear cU k24 c24 hM
  generalize Sort.grow (redrawn w1 dq) osq = w2 at *
  have hB := rburn_on w2 g m k h2.rc 0 (by omega) hlm
  go_wp2_with fail
  refine hB.mono ?_
  rintro e w3 ⟨rfl, hw3⟩
  have hc3 := Ch.setCell w2 ⟨g, 26, none⟩ (.int .i64 ((m.left - 0 : Nat) : Int))
  have hR3 := h2.rc.setLeft (m.left - 0)
  have hy3 := hy2.ch0 hc3 (fun x e h0 => absurd h0 (Nat.lt_irrefl _))
  rw [← hw3] at hc3 hR3 hy3
  dsimp only at hc3
  clear hw3
  have c0 := hR3.told hi
  have f0 := hR3.free (i * 3)
  have hcap := hy.cap
  have hNl : 0 ≤ 0 := Nat.le_refl _
  have hcv := (hy3.take hNl).conv (P := Try.prog) 32 5 9 Try.underlying32 Try.underlying5 Try.underlying9
  have hcd := ((hy3.below' ((Below.refl _ _).drew)).take hNl).conv (P := Try.prog) 32 5 9 Try.underlying32 Try.underlying5 Try.underlying9
  have hsz1 : (strOfNums (m.f i).told).size = (m.f i).told.length := strOfNums_size _
  have hsz2 : (strOfNums ([] : List Int)).size = 0 := rfl
  have happ : strOfNums (m.f i).told ++ strOfNums ([] : List Int) = strOfNums (m.f i).told := by rw [str_app, List.append_nil]
  have hle2 : (([] : List Int).take 0).length ≤ 16384 := Nat.le_trans (List.length_take_le' _ _) (by omega)
  have hto : (m.f i).told.length ≤ 1099511627 := Nat.le_trans (hm.told i hi) hs
  have hRS := (hR3.setTold hi ((m.f i).told)).below ((Below.refl _ _).drew)
  have hcS := (Ch.setCell w3 ⟨g, i * 3, none⟩ (.string (strOfNums ((m.f i).told)))).trans (Ch.of_below ((Below.refl _ _).drew) _)
  dsimp only at hRS hcS
  clear hB hy hy2 hy3 hR3
  have hfin := (RAfter.mend h2 (hc3.trans hcS) hRS rfl).before hbq
  clear hRS h h2 hp
  generalize (m.f i) = fl at *
  obtain ⟨ft, fls, fc⟩ := fl
  dsimp only at *
  go_wp2_with fail
  go_region
  go_wp2_with fail
  go_ret
  exact ⟨by rw [HG.out]; rfl, by rw [HA.out]; exact hfin⟩

theorem rAppend_ok (w : World) (g : Nat) (m : PD) (k : Sl) (h : RD w g m k) (s : Nat) (hm : m.ok s) (hs : s ≤ 1099511627) (hp : m.pre) (hw : m.down = false) (i : Nat) (hi : i < 8) (q : Option Addr) (l c : Nat) (ys : List Int) (hy : Rd .u8 w q l c ys) (hqg : ∀ x, q = some x → 0 < l → x.block ≠ g) (hl : l ≤ 16384) (hu : ¬ m.room < m.used + l) :
    Calls Try.prog 38 #[.pointer (some ⟨g, 0, none⟩), .int .i64 i, .slice q l c] w fun e w' => e = .returned (.int .i64 (goneE (m.gone l))) ∧ RAfter g k w w' (m.putAt i ys) := by
  cases q with
  | none =>
    obtain rfl : c = 0 := hy.nil rfl
    obtain rfl : l = 0 := by have := hy.cap; omega
    obtain rfl : ys = [] := List.length_eq_zero_iff.1 hy.len
    by_cases h0 : m.left = 0
    · exact rAppendN_none w g m k h s hm hs hp hw i hi hy hu h0
    · exact rAppendN_on w g m k h s hm hs hp hw i hi hy hu h0 (by omega)
  | some a =>
    by_cases hsp : 0 < l
    · obtain ⟨qb, qo, e, _⟩ := hy.cells hsp
      cases e
      by_cases h0 : m.left = 0
      · exact rAppend_none w g m k h s hm hs hp hw i hi qb qo l c ys hy (fun h => hqg _ rfl h) hl hu h0
      · by_cases h1 : m.left ≤ l
        · exact rAppend_out w g m k h s hm hs hp hw i hi qb qo l c ys hy (fun h => hqg _ rfl h) hl hu h0 h1
        · exact rAppend_on w g m k h s hm hs hp hw i hi qb qo l c ys hy (fun h => hqg _ rfl h) hl hu h0 h1
    · obtain rfl : l = 0 := by omega
      obtain rfl : ys = [] := List.length_eq_zero_iff.1 hy.len
      by_cases h0 : m.left = 0
      · exact rAppendS_none w g m k h s hm hs hp hw i hi a c hy hu h0
      · exact rAppendS_on w g m k h s hm hs hp hw i hi a c hy hu h0 (by omega)

end Go.Proofs.Ytcgpdaalehgjdaa.M
