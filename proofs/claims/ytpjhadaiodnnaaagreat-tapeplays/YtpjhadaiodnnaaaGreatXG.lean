/-
  Own text: the reference's disk: its cells; contracts of New, may, burn, Used.
  Own text: the contract of the reference's Fall.
  Own text: contracts of the reference's Clear, Sync, Crash, Arm, Read.
  Own text: contracts of the reference's Append and Read.
-/
import Derived.Test.YtpjhadaiodnnaaaGreatXF
import Derived.Laws.Concat
import Derived.Laws.Strings3
import Derived.Lib.ConvBytes
import Derived.Lib.QuietBelow
section
namespace Go.Proofs.YtpjhadaiodnnaaaGreat.M
open Go.ChangeShapes Go.WideShapes Go.ChangeAt Go.RowKit

structure Sl where
  p : Option Addr
  n : Nat
  c : Nat

def rfile (f : PF) (r : Nat) : Value := if r = 0 then .string (strOfNums f.told) else if r = 1 then .string (strOfNums f.lasts) else .bool f.cl

/-- The cells of the reference's disk m, with a slice k of what is to be kept. -/
def rcell (m : PD) (k : Sl) (j : Nat) : Value := if j = 24 then .int .i64 m.room else if j = 25 then .bool m.down else if j = 26 then .int .i64 m.left else if j = 27 then .slice k.p k.n k.c else rfile (m.f (j / 3)) (j % 3)

/-- The reference's disk m lies in block g. -/
structure RC (w : World) (g : Nat) (m : PD) (k : Sl) : Prop where
  cells : ∀ j, j < 28 → w.cell? ⟨g, j, none⟩ = some (rcell m k j)
  free : ∀ j, w.frozen? ⟨g, j, none⟩ = false

theorem rcell_file (m : PD) (k : Sl) {i r : Nat} (hi : i < 8) (hr : r < 3) : rcell m k (i * 3 + r) = rfile (m.f i) r := by
  unfold rcell
  rw [if_neg (by omega), if_neg (by omega), if_neg (by omega), if_neg (by omega)]
  have h1 : (i * 3 + r) / 3 = i := by omega
  have h2 : (i * 3 + r) % 3 = r := by omega
  rw [h1, h2]

theorem RC.lt {w : World} {g : Nat} {m : PD} {k : Sl} (h : RC w g m k) : g < w.heap.size := World.block_lt_of_cell? _ _ (h.cells 0 (by decide))
theorem RC.room {w : World} {g : Nat} {m : PD} {k : Sl} (h : RC w g m k) : w.cell? ⟨g, 24, none⟩ = some (.int .i64 m.room) := h.cells 24 (by decide)
theorem RC.down {w : World} {g : Nat} {m : PD} {k : Sl} (h : RC w g m k) : w.cell? ⟨g, 25, none⟩ = some (.bool m.down) := h.cells 25 (by decide)
theorem RC.left {w : World} {g : Nat} {m : PD} {k : Sl} (h : RC w g m k) : w.cell? ⟨g, 26, none⟩ = some (.int .i64 m.left) := h.cells 26 (by decide)
theorem RC.keep {w : World} {g : Nat} {m : PD} {k : Sl} (h : RC w g m k) : w.cell? ⟨g, 27, none⟩ = some (.slice k.p k.n k.c) := h.cells 27 (by decide)
theorem RC.told {w : World} {g : Nat} {m : PD} {k : Sl} (h : RC w g m k) {i : Nat} (hi : i < 8) : w.cell? ⟨g, i * 3, none⟩ = some (.string (strOfNums (m.f i).told)) := by
  have := h.cells (i * 3 + 0) (by omega)
  rw [rcell_file m k hi (by decide)] at this
  exact this
theorem RC.lasts {w : World} {g : Nat} {m : PD} {k : Sl} (h : RC w g m k) {i : Nat} (hi : i < 8) : w.cell? ⟨g, i * 3 + 1, none⟩ = some (.string (strOfNums (m.f i).lasts)) := by
  have := h.cells (i * 3 + 1) (by omega)
  rw [rcell_file m k hi (by decide)] at this
  exact this
theorem RC.cl {w : World} {g : Nat} {m : PD} {k : Sl} (h : RC w g m k) {i : Nat} (hi : i < 8) : w.cell? ⟨g, i * 3 + 2, none⟩ = some (.bool (m.f i).cl) := by
  have := h.cells (i * 3 + 2) (by omega)
  rw [rcell_file m k hi (by decide)] at this
  exact this

theorem RC.ch {S : Nat → Prop} {w w' : World} {g : Nat} {m : PD} {k : Sl} (h : RC w g m k) (hc : Ch S w w') (hg : ¬ S g) : RC w' g m k :=
  ⟨fun j hj => by rw [hc.cell (p := ⟨g, j, none⟩) h.lt hg]; exact h.cells j hj, fun j => by rw [hc.frozen (p := ⟨g, j, none⟩) h.lt hg]; exact h.free j⟩

theorem RC.below {w w' : World} {g : Nat} {m : PD} {k : Sl} (h : RC w g m k) (hb : Below w.heap.size w w') : RC w' g m k := h.ch (Ch.of_below hb (fun _ => False)) (fun e => e)

/-- A cell of it set. -/
theorem RC.set {w : World} {g : Nat} {m m' : PD} {k k' : Sl} (h : RC w g m k) (j0 : Nat) (hj0 : j0 < 28) (v : Value) (hv : rcell m' k' j0 = v) (hne : ∀ j, j < 28 → j ≠ j0 → rcell m' k' j = rcell m k j) : RC (w.setCell ⟨g, j0, none⟩ v) g m' k' := by
  refine ⟨fun j hj => ?_, fun j => by rw [World.frozen?_setCell]; exact h.free j⟩
  by_cases e : j = j0
  · subst e
    rw [hv]
    exact World.cell?_setCell_same _ _ _ (h.cells j hj)
  · rw [World.cell?_setCell_other (h := fun e2 => e (congrArg Addr.off e2).symm), hne j hj e]
    exact h.cells j hj

theorem RC.setDown {w : World} {g : Nat} {m : PD} {k : Sl} (h : RC w g m k) (b : Bool) : RC (w.setCell ⟨g, 25, none⟩ (.bool b)) g { m with down := b } k := by
  refine h.set 25 (by decide) _ rfl fun j _ hj => ?_
  unfold rcell
  by_cases h0 : j = 24
  · rw [if_pos h0, if_pos h0]
  · rw [if_neg h0, if_neg h0, if_neg hj, if_neg hj]

theorem RC.setLeft {w : World} {g : Nat} {m : PD} {k : Sl} (h : RC w g m k) (n : Nat) : RC (w.setCell ⟨g, 26, none⟩ (.int .i64 n)) g { m with left := n } k := by
  refine h.set 26 (by decide) _ rfl fun j _ hj => ?_
  unfold rcell
  by_cases h0 : j = 24
  · rw [if_pos h0, if_pos h0]
  · rw [if_neg h0, if_neg h0]
    by_cases h1 : j = 25
    · rw [if_pos h1, if_pos h1]
    · rw [if_neg h1, if_neg h1, if_neg hj, if_neg hj]

theorem RC.setKeep {w : World} {g : Nat} {m : PD} {k : Sl} (h : RC w g m k) (p : Option Addr) (n c : Nat) (ks : List Int) : RC (w.setCell ⟨g, 27, none⟩ (.slice p n c)) g { m with keep := ks } ⟨p, n, c⟩ := by
  refine h.set 27 (by decide) _ rfl fun j _ hj => ?_
  unfold rcell
  by_cases h0 : j = 24
  · rw [if_pos h0, if_pos h0]
  · rw [if_neg h0, if_neg h0]
    by_cases h1 : j = 25
    · rw [if_pos h1, if_pos h1]
    · rw [if_neg h1, if_neg h1]
      by_cases h2 : j = 26
      · rw [if_pos h2, if_pos h2]
      · rw [if_neg h2, if_neg h2, if_neg hj, if_neg hj]

theorem RC.setFile {w : World} {g : Nat} {m : PD} {k : Sl} (h : RC w g m k) {i r : Nat} (hi : i < 8) (hr : r < 3) (f : PF) (v : Value) (hv : rfile f r = v) (hne : ∀ q, q < 3 → q ≠ r → rfile f q = rfile (m.f i) q) :
    RC (w.setCell ⟨g, i * 3 + r, none⟩ v) g { m with f := upP m.f i f } k := by
  refine h.set (i * 3 + r) (by omega) _ ?_ fun j hj hjk => ?_
  · rw [rcell_file _ k hi hr]
    show rfile (upP m.f i f i) r = v
    rw [upP_same]
    exact hv
  · unfold rcell
    by_cases h0 : j = 24
    · rw [if_pos h0, if_pos h0]
    · rw [if_neg h0, if_neg h0]
      by_cases h1 : j = 25
      · rw [if_pos h1, if_pos h1]
      · rw [if_neg h1, if_neg h1]
        by_cases h2 : j = 26
        · rw [if_pos h2, if_pos h2]
        · rw [if_neg h2, if_neg h2]
          by_cases h3 : j = 27
          · rw [if_pos h3, if_pos h3]
          · rw [if_neg h3, if_neg h3]
            show rfile (upP m.f i f (j / 3)) (j % 3) = _
            by_cases hji : j / 3 = i
            · rw [hji, upP_same]
              exact hne _ (Nat.mod_lt _ (by decide)) (by omega)
            · rw [upP_other _ _ hji]

theorem RC.setTold {w : World} {g : Nat} {m : PD} {k : Sl} (h : RC w g m k) {i : Nat} (hi : i < 8) (t : List Int) : RC (w.setCell ⟨g, i * 3, none⟩ (.string (strOfNums t))) g { m with f := upP m.f i { m.f i with told := t } } k :=
  h.setFile (r := 0) hi (by decide) _ _ rfl fun q _ hq0 => by unfold rfile; rw [if_neg hq0, if_neg hq0]
theorem RC.setLasts {w : World} {g : Nat} {m : PD} {k : Sl} (h : RC w g m k) {i : Nat} (hi : i < 8) (t : List Int) : RC (w.setCell ⟨g, i * 3 + 1, none⟩ (.string (strOfNums t))) g { m with f := upP m.f i { m.f i with lasts := t } } k :=
  h.setFile (r := 1) hi (by decide) _ _ rfl fun q _ hq0 => by unfold rfile; rw [if_neg hq0, if_neg hq0]
theorem RC.setCl {w : World} {g : Nat} {m : PD} {k : Sl} (h : RC w g m k) {i : Nat} (hi : i < 8) (b : Bool) : RC (w.setCell ⟨g, i * 3 + 2, none⟩ (.bool b)) g { m with f := upP m.f i { m.f i with cl := b } } k :=
  h.setFile (r := 2) hi (by decide) _ _ rfl fun q hq hq2 => by
    match q, hq, hq2 with
    | 0, _, _ => rfl
    | 1, _, _ => rfl
    | 2, _, h => exact absurd rfl h

/-- All files' cells. -/
def rc24 (f : Nat → PF) : List Value := [.string (strOfNums (f 0).told), .string (strOfNums (f 0).lasts), .bool (f 0).cl, .string (strOfNums (f 1).told), .string (strOfNums (f 1).lasts), .bool (f 1).cl, .string (strOfNums (f 2).told), .string (strOfNums (f 2).lasts), .bool (f 2).cl, .string (strOfNums (f 3).told), .string (strOfNums (f 3).lasts), .bool (f 3).cl, .string (strOfNums (f 4).told), .string (strOfNums (f 4).lasts), .bool (f 4).cl, .string (strOfNums (f 5).told), .string (strOfNums (f 5).lasts), .bool (f 5).cl, .string (strOfNums (f 6).told), .string (strOfNums (f 6).lasts), .bool (f 6).cl, .string (strOfNums (f 7).told), .string (strOfNums (f 7).lasts), .bool (f 7).cl]

theorem RC.range {w : World} {g : Nat} {m : PD} {k : Sl} (h : RC w g m k) : w.rangeAt g 0 (rc24 m.f) := fun j v hv => by
  rw [Nat.zero_add]
  match j, hv with
  | 0, hv => cases hv; exact h.told (i := 0) (by decide)
  | 1, hv => cases hv; exact h.lasts (i := 0) (by decide)
  | 2, hv => cases hv; exact h.cl (i := 0) (by decide)
  | 3, hv => cases hv; exact h.told (i := 1) (by decide)
  | 4, hv => cases hv; exact h.lasts (i := 1) (by decide)
  | 5, hv => cases hv; exact h.cl (i := 1) (by decide)
  | 6, hv => cases hv; exact h.told (i := 2) (by decide)
  | 7, hv => cases hv; exact h.lasts (i := 2) (by decide)
  | 8, hv => cases hv; exact h.cl (i := 2) (by decide)
  | 9, hv => cases hv; exact h.told (i := 3) (by decide)
  | 10, hv => cases hv; exact h.lasts (i := 3) (by decide)
  | 11, hv => cases hv; exact h.cl (i := 3) (by decide)
  | 12, hv => cases hv; exact h.told (i := 4) (by decide)
  | 13, hv => cases hv; exact h.lasts (i := 4) (by decide)
  | 14, hv => cases hv; exact h.cl (i := 4) (by decide)
  | 15, hv => cases hv; exact h.told (i := 5) (by decide)
  | 16, hv => cases hv; exact h.lasts (i := 5) (by decide)
  | 17, hv => cases hv; exact h.cl (i := 5) (by decide)
  | 18, hv => cases hv; exact h.told (i := 6) (by decide)
  | 19, hv => cases hv; exact h.lasts (i := 6) (by decide)
  | 20, hv => cases hv; exact h.cl (i := 6) (by decide)
  | 21, hv => cases hv; exact h.told (i := 7) (by decide)
  | 22, hv => cases hv; exact h.lasts (i := 7) (by decide)
  | 23, hv => cases hv; exact h.cl (i := 7) (by decide)
  | k + 24, hv => simp [rc24] at hv

theorem size24 : (Tryz.prog.info? 59).map (·.size) = some 24 := by kernel_rfl

set_option maxRecDepth 20000 in
theorem index24 (f : Nat → PF) {I : Nat} (hI : I < 8) (W : World) : (Instr.index 59 (.agg (rc24 f).toArray) (.int .i64 (I : Int))).run Tryz.prog W = .ok (.agg #[.string (strOfNums (f I).told), .string (strOfNums (f I).lasts), .bool (f I).cl]) W := by
  match I, hI with
  | 0, _ => go_simp; rfl
  | 1, _ => go_simp; rfl
  | 2, _ => go_simp; rfl
  | 3, _ => go_simp; rfl
  | 4, _ => go_simp; rfl
  | 5, _ => go_simp; rfl
  | 6, _ => go_simp; rfl
  | 7, _ => go_simp; rfl
  | k + 8, h => exact absurd h (by omega)

set_option maxRecDepth 20000 in
theorem rmay_any (w : World) (g : Nat) (m : PD) (k : Sl) (h : RC w g m k) (i : Int) :
    Calls Tryz.prog 63 #[.pointer (some ⟨g, 0, none⟩), .int .i64 i] w fun e w' => e = .returned (.int .i64 (if m.down then 50 else if i < 0 ∨ 8 ≤ i then 51 else 0)) ∧ w' = w := by
  have h1 := h.down
  clear h
  cases hd : m.down with
  | true =>
    rw [hd] at h1
    clear hd
    go_enter Tryz.func63, Tryz.ntmps63
    go_wp2_with fail
    go_ret
    exact ⟨rfl, rfl⟩
  | false =>
    rw [hd] at h1
    clear hd
    by_cases hi : i < 0
    · rw [if_pos (Or.inl hi)]
      go_enter Tryz.func63, Tryz.ntmps63
      go_wp2_with fail
      go_ret
      exact ⟨rfl, rfl⟩
    · by_cases hj : 8 ≤ i
      · rw [if_pos (Or.inr hj)]
        have h7 : (7 : Int) < i := by omega
        go_enter Tryz.func63, Tryz.ntmps63
        go_wp2_with fail
        go_ret
        exact ⟨rfl, rfl⟩
      · rw [if_neg (show ¬ (false = true) by decide), if_neg (by omega)]
        have h7 : ¬ (7 : Int) < i := by omega
        go_enter Tryz.func63, Tryz.ntmps63
        go_wp2_with fail
        go_ret
        exact ⟨rfl, rfl⟩

set_option maxRecDepth 20000 in
theorem rburn_none (w : World) (g : Nat) (m : PD) (k : Sl) (h : RC w g m k) (hl : m.left = 0) (n : Nat) :
    Calls Tryz.prog 71 #[.pointer (some ⟨g, 0, none⟩), .int .i64 n] w fun e w' => e = .returned (.tuple #[.int .i64 n, .bool false]) ∧ w' = w := by
  have hc := h.left
  rw [hl] at hc
  clear h
  go_enter Tryz.func71, Tryz.ntmps71
  go_wp2_with fail
  go_ret2
  exact ⟨rfl, rfl⟩

set_option maxRecDepth 20000 in
theorem rburn_out (w : World) (g : Nat) (m : PD) (k : Sl) (h : RC w g m k) (hl : 0 < m.left) (n : Nat) (hn : m.left ≤ n) :
    Calls Tryz.prog 71 #[.pointer (some ⟨g, 0, none⟩), .int .i64 n] w fun e w' => e = .returned (.tuple #[.int .i64 m.left, .bool true]) ∧ w' = w := by
  have hc := h.left
  generalize m.left = l at *
  clear h
  go_enter Tryz.func71, Tryz.ntmps71
  go_wp2_with fail
  go_ret2
  exact ⟨rfl, rfl⟩

set_option maxRecDepth 20000 in
theorem rburn_on (w : World) (g : Nat) (m : PD) (k : Sl) (h : RC w g m k) (n : Nat) (hn : n < m.left) (hm : m.left ≤ 9223372036854775807) :
    Calls Tryz.prog 71 #[.pointer (some ⟨g, 0, none⟩), .int .i64 n] w fun e w' => e = .returned (.tuple #[.int .i64 n, .bool false]) ∧ w' = w.setCell ⟨g, 26, none⟩ (.int .i64 (m.left - n : Nat)) := by
  have hc := h.left
  have hf := h.free 26
  generalize m.left = l at *
  have e : (l : Int) - (n : Int) = ((l - n : Nat) : Int) := by omega
  clear h
  go_enter Tryz.func71, Tryz.ntmps71
  go_wp2_with fail
  go_ret2
  exact ⟨rfl, rfl⟩

/-- How many bytes the first k files have. -/
def usedP (f : Nat → PF) : Nat → Nat
  | 0 => 0
  | k + 1 => usedP f k + (f k).told.length

theorem usedP_eq (m : PD) : usedP m.f 8 = m.used := by
  unfold PD.used
  simp [usedP]

theorem usedP_le (f : Nat → PF) (s : Nat) (h : ∀ i, i < 8 → (f i).told.length ≤ s) : ∀ k, k ≤ 8 → usedP f k ≤ k * s
  | 0, _ => Nat.zero_le _
  | k + 1, hk => by
    have h1 := usedP_le f s h k (by omega)
    have h2 := h k (by omega)
    show usedP f k + (f k).told.length ≤ _
    rw [Nat.succ_mul]
    omega

set_option maxRecDepth 20000 in
theorem rused_any (w : World) (g : Nat) (m : PD) (k : Sl) (h : RC w g m k) (hs : ∀ i, i < 8 → (m.f i).told.length ≤ 549755813888) :
    Calls Tryz.prog 80 #[.pointer (some ⟨g, 0, none⟩)] w fun e w' => e = .returned (.int .i64 m.used) ∧ Below w.heap.size w w' := by
  have hR := h.range
  have hc0 := h.told (i := 0) (by decide)
  have HU : Hid (usedP m.f 8 = m.used) := usedP_eq m
  go_enter Tryz.func80, Tryz.ntmps80
  go_wp2_with (refine wpList_load_mid rfl 59 (.tmp 8) rfl g 0 rfl (rc24 m.f) _ hR Tryz.underlying59 rfl size24 ?_)
  go_loopw [3, 10] (fun s i wr => ∃ k : Nat, k ≤ 8 ∧ i = .int .i64 k ∧ s = .int .i64 (usedP m.f k) ∧ Below w.heap.size w wr) (fun _ i _ => 8 - (intOf i).toNat)
  case atStart => exact ⟨0, Nat.zero_le _, rfl, rfl, Below.refl _ _⟩
  case round =>
    obtain ⟨k, hk, rfl, rfl, hb⟩ := hrel
    by_cases h8 : k < 8
    · have hki : (k : Int) < 8 := by omega
      have hix := fun W => index24 m.f h8 W
      have hle := usedP_le m.f _ hs k hk
      have hl := hs k h8
      have HS : Hid (usedP m.f (k + 1) = usedP m.f k + (m.f k).told.length) := rfl
      have hsz : (strOfNums (m.f k).told).size = (m.f k).told.length := strOfNums_size _
      clear h hR hc0 hs
      generalize usedP m.f k = u at *
      generalize (m.f k).told.length = L at *
      have hbA : Below w.heap.size w (wr.alloc (.cells #[.string (strOfNums (m.f k).told), .string (strOfNums (m.f k).lasts), .bool (m.f k).cl] 58)) := hb.alloc hb.size _
      go_wp2_with fail
      go_roundw
      case rel => exact ⟨k + 1, by omega, by go_num, by rw [HS.out]; go_num, hbA⟩
      case measure => simp [intOf]; omega
    · obtain rfl : k = 8 := by omega
      clear h hR hc0 hs
      go_wp2_with fail
      go_ret
      exact ⟨by rw [← HU.out]; rfl, hb⟩

set_option linter.unusedSimpArgs false in
set_option maxRecDepth 20000 in
theorem rnew_any (w : World) (r : Nat) (h1 : 1 ≤ r) (h2 : r ≤ 4194304) :
    Calls Tryz.prog 7 #[.int .i64 r] w fun e w' => e = .returned (.tuple #[.pointer (some ⟨w.heap.size, 0, none⟩), .int .i64 0]) ∧ RC w' w.heap.size (pd0 r) ⟨none, 0, 0⟩ ∧ Below w.heap.size w w' := by
  go_enter Tryz.func7, Tryz.ntmps7
  go_wp2_with fail
  go_ret2
  refine ⟨rfl, ⟨fun j hj => ?_, fun j => World.frozen?_alloc_at _ _ _ _ rfl⟩, (Below.refl _ _).alloc (Nat.le_refl _) _⟩
  match j, hj with
  | 0, _ => simp [rcell, rfile, pd0, strOfNums]
  | 1, _ => simp [rcell, rfile, pd0, strOfNums]
  | 2, _ => simp [rcell, rfile, pd0, strOfNums]
  | 3, _ => simp [rcell, rfile, pd0, strOfNums]
  | 4, _ => simp [rcell, rfile, pd0, strOfNums]
  | 5, _ => simp [rcell, rfile, pd0, strOfNums]
  | 6, _ => simp [rcell, rfile, pd0, strOfNums]
  | 7, _ => simp [rcell, rfile, pd0, strOfNums]
  | 8, _ => simp [rcell, rfile, pd0, strOfNums]
  | 9, _ => simp [rcell, rfile, pd0, strOfNums]
  | 10, _ => simp [rcell, rfile, pd0, strOfNums]
  | 11, _ => simp [rcell, rfile, pd0, strOfNums]
  | 12, _ => simp [rcell, rfile, pd0, strOfNums]
  | 13, _ => simp [rcell, rfile, pd0, strOfNums]
  | 14, _ => simp [rcell, rfile, pd0, strOfNums]
  | 15, _ => simp [rcell, rfile, pd0, strOfNums]
  | 16, _ => simp [rcell, rfile, pd0, strOfNums]
  | 17, _ => simp [rcell, rfile, pd0, strOfNums]
  | 18, _ => simp [rcell, rfile, pd0, strOfNums]
  | 19, _ => simp [rcell, rfile, pd0, strOfNums]
  | 20, _ => simp [rcell, rfile, pd0, strOfNums]
  | 21, _ => simp [rcell, rfile, pd0, strOfNums]
  | 22, _ => simp [rcell, rfile, pd0, strOfNums]
  | 23, _ => simp [rcell, rfile, pd0, strOfNums]
  | 24, _ => simp [rcell, rfile, pd0, strOfNums]
  | 25, _ => simp [rcell, rfile, pd0, strOfNums]
  | 26, _ => simp [rcell, rfile, pd0, strOfNums]
  | 27, _ => simp [rcell, rfile, pd0, strOfNums]
  | k + 28, h => exact absurd h (by omega)

set_option maxRecDepth 20000 in
theorem rnew_bad (w : World) (r : Int) (h : r < 1 ∨ 4194304 < r) :
    Calls Tryz.prog 7 #[.int .i64 r] w fun e w' => e = .returned (.tuple #[.pointer none, .int .i64 1]) ∧ w' = w := by
  rcases h with h | h
  · go_enter Tryz.func7, Tryz.ntmps7
    go_wp2_with fail
    go_ret2
    exact ⟨rfl, rfl⟩
  · have h1 : ¬ r < 1 := by omega
    go_enter Tryz.func7, Tryz.ntmps7
    go_wp2_with fail
    go_ret2
    exact ⟨rfl, rfl⟩

set_option maxRecDepth 20000 in
theorem new_bad (w : World) (r : Int) (h : r < 1 ∨ 4194304 < r) :
    Calls Tryz.prog 6 #[.int .i64 r] w fun e w' => e = .returned (.tuple #[.pointer none, .int .i64 1]) ∧ w' = w := by
  rcases h with h | h
  · go_enter Tryz.func6, Tryz.ntmps6
    go_wp2_with fail
    go_ret2
    exact ⟨rfl, rfl⟩
  · have h1 : ¬ r < 1 := by omega
    go_enter Tryz.func6, Tryz.ntmps6
    go_wp2_with fail
    go_ret2
    exact ⟨rfl, rfl⟩

end Go.Proofs.YtpjhadaiodnnaaaGreat.M
end

section
namespace Go.Proofs.YtpjhadaiodnnaaaGreat.M
open Go.ChangeShapes Go.WideShapes Go.ChangeAt Go.RowKit

theorem str_take (xs : List Int) (n : Nat) : (strOfNums xs).extract 0 n = strOfNums (xs.take n) := by
  apply ByteArray.ext
  rw [ByteArray.data_extract]
  unfold strOfNums
  simp

theorem str_drop (xs : List Int) (n : Nat) : (strOfNums xs).extract n xs.length = strOfNums (xs.drop n) := by
  apply ByteArray.ext
  rw [ByteArray.data_extract]
  unfold strOfNums
  simp
  rw [List.take_of_length_le (by simp)]

theorem keepAt_none' (keep : List Int) {i : Nat} (h : keep.length ≤ i) : keepAt keep i < 0 := by
  unfold keepAt
  rw [if_neg (by omega)]
  decide

theorem keepAt_some' (keep : List Int) {i : Nat} (h : i < keep.length) : keepAt keep i = keep.getD i 0 := if_pos h

theorem str_app (xs ys : List Int) : strOfNums xs ++ strOfNums ys = strOfNums (xs ++ ys) := by
  apply ByteArray.ext
  rw [ByteArray.data_append]
  unfold strOfNums
  simp

theorem pre_take {ls ts : List Int} (h : ls <+: ts) (n : Nat) : ts.take (ls.length + n) = ls ++ (ts.drop ls.length).take n := by
  obtain ⟨r, rfl⟩ := h
  rw [List.drop_left, List.take_length_add_append]

theorem sizeRf : (Tryz.prog.info? 58).map (·.size) = some 3 := by kernel_rfl

theorem oneRf (s t : ByteArray) (b : Bool) : (#[.string s, .string t, .bool b] : Array Value).all (·.oneCell') = true := by simp [Value.oneCell']

theorem RC.setAll {w : World} {g : Nat} {m : PD} {k : Sl} (h : RC w g m k) {i : Nat} (hi : i < 8) (t : List Int) : RC (w.setCells g (i * 3) [.string (strOfNums t), .string (strOfNums t), .bool false]) g { m with f := upP m.f i ⟨t, t, false⟩ } k := by
  have hd := ((h.setTold hi t).setLasts hi t).setCl hi false
  dsimp only at hd
  rw [upP_same, upP_up, upP_same, upP_up] at hd
  exact hd

set_option maxRecDepth 20000 in
set_option maxHeartbeats 2000000 in
theorem rfall_any (w : World) (g : Nat) (m : PD) (kk : Sl) (h : RC w g m kk) (q : Option Addr) (l c : Nat) (keep : List Int) (hr : Rd .i64 w q l c keep) (hl : l ≤ 549755813888) (hq : ∀ x, q = some x → 0 < l → x.block ≠ g) (hn : ∀ i, i < 8 → (m.f i).told.length ≤ 549755813888) (hpre : ∀ i, i < 8 → (m.f i).cl = false → (m.f i).lasts <+: (m.f i).told) :
    Calls Tryz.prog 49 #[.pointer (some ⟨g, 0, none⟩), .slice q l c] w fun e w' => e = .returned (.tuple #[]) ∧ RC w' g (m.fall keep) ⟨none, 0, 0⟩ ∧ Ch (fun k => k = g) w w' := by
  have hR := h.range
  have hc0 := h.told (i := 0) (by decide)
  have hlk := hr.len
  have h0 : RC w g { m with f := fallN m.f keep 0 } kk := by
    have e : fallN m.f keep 0 = m.f := by
      funext i
      unfold fallN
      rw [if_neg (Nat.not_lt_zero _)]
    rw [e]
    exact h
  go_enter Tryz.func49, Tryz.ntmps49
  go_wp2_with (refine wpList_load_mid rfl 59 (.tmp 11) rfl g 0 rfl (rc24 m.f) _ hR Tryz.underlying59 rfl size24 ?_)
  go_loopw [13] (fun ix wr => ∃ k : Nat, k ≤ 8 ∧ ix = .int .i64 k ∧ RC wr g { m with f := fallN m.f keep k } kk ∧ Ch (fun j => j = g) w wr) (fun ix _ => 8 - (intOf ix).toNat)
  case atStart => exact ⟨0, Nat.zero_le _, rfl, h0, Ch.refl _ _⟩
  case round =>
    clear h0 h hR hc0
    obtain ⟨k, hk, rfl, hRC, hC⟩ := hrel
    by_cases h8 : k < 8
    · have hki : (k : Int) < 8 := by omega
      have hix := fun W => index24 m.f h8 W
      have hfk : fallN m.f keep k k = m.f k := if_neg (Nat.lt_irrefl _)
      have hbB : Below wr.heap.size wr (wr.alloc (.cells #[.string (strOfNums (m.f k).told), .string (strOfNums (m.f k).lasts), .bool (m.f k).cl] 58)) := (Below.refl _ _).alloc (Nat.le_refl _) _
      have hr2 := hr.ch0 hC (fun x e h0 e2 => hq x e h0 e2)
      by_cases hkl : k < l
      · have hkli : (k : Int) < (l : Int) := by omega
        obtain ⟨kb, ko, rfl, hkc⟩ := hr2.cells (by omega)
        have hkc2 := cell_belowB hbB (World.block_lt_of_cell? _ _ (hkc k hkl)) (hkc k hkl)
        have hkv : keepAt keep k = keep.getD k 0 := keepAt_some' keep (by omega)
        clear hkc hr2
        generalize hkvv : keep.getD k 0 = kv at *
        by_cases hneg : kv < 0
        · have hrest : Hid ((m.f k).rest (keepAt keep k) = (m.f k).lasts) := by
            unfold Hid PF.rest
            rw [if_pos (by rw [hkv]; exact hneg)]
          have hRC2 := (hRC.below hbB).setAll h8 ((m.f k).lasts)
          have hst : upP (fallN m.f keep k) k ⟨(m.f k).lasts, (m.f k).lasts, false⟩ = fallN m.f keep (k + 1) := by
            rw [← fallN_step]
            show _ = upP _ k ((fallN m.f keep k k).crash (keepAt keep k))
            rw [hfk]
            unfold PF.crash
            rw [hrest.out]
          dsimp only at hRC2
          rw [hst] at hRC2
          have hTh : (wr.alloc (.cells #[.string (strOfNums (m.f k).told), .string (strOfNums (m.f k).lasts), .bool (m.f k).cl] 58)).there g (k * 3) 3 := fun j hj => by
            have hh := hRC.below hbB
            rw [hh.cells (k * 3 + j) (by omega)]
            exact ⟨rfl, hh.free _⟩
          have hC2 := ((Ch.of_below hbB (fun j => j = g)).mono (fun _ _ e => e)).trans (Ch.setCells g [.string (strOfNums ((m.f k).lasts)), .string (strOfNums ((m.f k).lasts)), .bool false] (k * 3) (wr.alloc (.cells #[.string (strOfNums (m.f k).told), .string (strOfNums (m.f k).lasts), .bool (m.f k).cl] 58)))
          have hC3 := hC.trans hC2
          clear hRC hst hrest
          have hk0 : ¬ (0 : Int) ≤ kv := by omega
          go_wp2_with (refine wpList_store_mid rfl 58 (.tmp 65) (.tmp 62) rfl g (k * 3) #[.string (strOfNums ((m.f k).lasts)), .string (strOfNums ((m.f k).lasts)), .bool false] rfl rfl hTh sizeRf (oneRf _ _ _) ?_)
          go_roundw
          case rel => exact ⟨k + 1, by omega, by go_num, hRC2, hC3⟩
          case measure => simp [intOf]; omega
        · obtain ⟨K, rfl⟩ := Int.eq_ofNat_of_zero_le (show 0 ≤ kv by omega)
          cases hcl : (m.f k).cl with
          | true =>
            rw [hcl] at hbB hkc2
            simp only [hcl] at hix
            by_cases hKL : K ≤ (m.f k).told.length
            · have hKi : ¬ ((m.f k).told.length : Int) < (K : Int) := by omega
              have hrest : Hid ((m.f k).rest (keepAt keep k) = ((m.f k).told.take K)) := by
                unfold Hid PF.rest
                rw [hkv, if_neg (by omega)]
                unfold PF.sure
                rw [hcl]
                simp only [if_true, Int.toNat_natCast]
                rw [Nat.zero_add, Nat.sub_zero, Nat.min_eq_left hKL]
              have hRC2 := (hRC.below hbB).setAll h8 (((m.f k).told.take K))
              have hst : upP (fallN m.f keep k) k ⟨((m.f k).told.take K), ((m.f k).told.take K), false⟩ = fallN m.f keep (k + 1) := by
                rw [← fallN_step]
                show _ = upP _ k ((fallN m.f keep k k).crash (keepAt keep k))
                rw [hfk]
                unfold PF.crash
                rw [hrest.out]
              dsimp only at hRC2
              rw [hst] at hRC2
              have hTh : (wr.alloc (.cells #[.string (strOfNums (m.f k).told), .string (strOfNums (m.f k).lasts), .bool true] 58)).there g (k * 3) 3 := fun j hj => by
                have hh := hRC.below hbB
                rw [hh.cells (k * 3 + j) (by omega)]
                exact ⟨rfl, hh.free _⟩
              have hC2 := ((Ch.of_below hbB (fun j => j = g)).mono (fun _ _ e => e)).trans (Ch.setCells g [.string (strOfNums (((m.f k).told.take K))), .string (strOfNums (((m.f k).told.take K))), .bool false] (k * 3) (wr.alloc (.cells #[.string (strOfNums (m.f k).told), .string (strOfNums (m.f k).lasts), .bool true] 58)))
              have hC3 := hC.trans hC2
              clear hRC hst hrest
              have hex : (strOfNums (m.f k).told).extract 0 K = strOfNums ((m.f k).told.take K) := str_take _ _
              have hsz : (strOfNums (m.f k).told).size = (m.f k).told.length := strOfNums_size _
              have hk0 : (0 : Int) ≤ (K : Int) := by omega
              go_wp2_with (refine wpList_store_mid rfl 58 (.tmp 65) (.tmp 62) rfl g (k * 3) #[.string (strOfNums (((m.f k).told.take K))), .string (strOfNums (((m.f k).told.take K))), .bool false] rfl rfl hTh sizeRf (oneRf _ _ _) ?_)
              go_roundw
              case rel => exact ⟨k + 1, by omega, by go_num, hRC2, hC3⟩
              case measure => simp [intOf]; omega
            · have hKi : ((m.f k).told.length : Int) < (K : Int) := by omega
              have hrest : Hid ((m.f k).rest (keepAt keep k) = (m.f k).told) := by
                unfold Hid PF.rest
                rw [hkv, if_neg (by omega)]
                unfold PF.sure
                rw [hcl]
                simp only [if_true, Int.toNat_natCast]
                rw [Nat.zero_add, Nat.sub_zero, Nat.min_eq_right (by omega), List.take_length]
              have hRC2 := (hRC.below hbB).setAll h8 ((m.f k).told)
              have hst : upP (fallN m.f keep k) k ⟨(m.f k).told, (m.f k).told, false⟩ = fallN m.f keep (k + 1) := by
                rw [← fallN_step]
                show _ = upP _ k ((fallN m.f keep k k).crash (keepAt keep k))
                rw [hfk]
                unfold PF.crash
                rw [hrest.out]
              dsimp only at hRC2
              rw [hst] at hRC2
              have hTh : (wr.alloc (.cells #[.string (strOfNums (m.f k).told), .string (strOfNums (m.f k).lasts), .bool true] 58)).there g (k * 3) 3 := fun j hj => by
                have hh := hRC.below hbB
                rw [hh.cells (k * 3 + j) (by omega)]
                exact ⟨rfl, hh.free _⟩
              have hC2 := ((Ch.of_below hbB (fun j => j = g)).mono (fun _ _ e => e)).trans (Ch.setCells g [.string (strOfNums ((m.f k).told)), .string (strOfNums ((m.f k).told)), .bool false] (k * 3) (wr.alloc (.cells #[.string (strOfNums (m.f k).told), .string (strOfNums (m.f k).lasts), .bool true] 58)))
              have hC3 := hC.trans hC2
              clear hRC hst hrest
              have hex : (strOfNums (m.f k).told).extract 0 (m.f k).told.length = strOfNums (m.f k).told := (str_take _ _).trans (by rw [List.take_length])
              have hsz : (strOfNums (m.f k).told).size = (m.f k).told.length := strOfNums_size _
              have hk0 : (0 : Int) ≤ (K : Int) := by omega
              go_wp2_with (refine wpList_store_mid rfl 58 (.tmp 65) (.tmp 62) rfl g (k * 3) #[.string (strOfNums ((m.f k).told)), .string (strOfNums ((m.f k).told)), .bool false] rfl rfl hTh sizeRf (oneRf _ _ _) ?_)
              go_roundw
              case rel => exact ⟨k + 1, by omega, by go_num, hRC2, hC3⟩
              case measure => simp [intOf]; omega
          | false =>
            rw [hcl] at hbB hkc2
            simp only [hcl] at hix
            have hple : (m.f k).lasts.length ≤ (m.f k).told.length := (hpre k h8 hcl).length_le
            obtain ⟨D, HD⟩ : ∃ D, Hid ((m.f k).told.drop (m.f k).lasts.length = D) := ⟨_, rfl⟩
            have HL : Hid (D.length = (m.f k).told.length - (m.f k).lasts.length) := by
              unfold Hid
              rw [← HD.out]
              exact List.length_drop
            have hDle : D.length ≤ (m.f k).told.length := by have := HL.out; omega
            by_cases hKL : K ≤ (m.f k).told.length - (m.f k).lasts.length
            · have hKi : ¬ (D.length : Int) < (K : Int) := by have := HL.out; omega
              have hex1 : (strOfNums (m.f k).told).extract (m.f k).lasts.length (m.f k).told.length = strOfNums D := by rw [← HD.out]; exact str_drop _ _
              have hsz1 : (strOfNums (m.f k).told).size = (m.f k).told.length := strOfNums_size _
              have hsz2 : (strOfNums (m.f k).lasts).size = (m.f k).lasts.length := strOfNums_size _
              have hsz3 : (strOfNums D).size = D.length := strOfNums_size _
              have hex2 : (strOfNums D).extract 0 K = strOfNums (D.take K) := str_take _ _
              have hsz4 : (strOfNums (D.take K)).size = (D.take K).length := strOfNums_size _
              have hle4 : (D.take K).length ≤ (m.f k).told.length := Nat.le_trans (List.length_take_le' _ _) hDle
              have happ : strOfNums (m.f k).lasts ++ strOfNums (D.take K) = strOfNums ((m.f k).lasts ++ (D.take K)) := str_app _ _
              have hk0 : (0 : Int) ≤ (K : Int) := by omega
              have hle0 : ((m.f k).lasts.length : Int) ≤ ((m.f k).told.length : Int) := by omega
              have hn4 : (m.f k).told.length ≤ 549755813888 := hn k h8
              have hn5 : (m.f k).lasts.length ≤ 549755813888 := Nat.le_trans hple hn4
              go_wp2_with fail
              go_quiet (fail)
              replace hbB := below_drewN hbB nq
              have hrest : Hid ((m.f k).rest (keepAt keep k) = ((m.f k).lasts ++ D.take K)) := by
                unfold Hid PF.rest
                rw [hkv, if_neg (by omega)]
                unfold PF.sure
                rw [hcl]
                simp only [Bool.false_eq_true, if_false, Int.toNat_natCast]
                rw [Nat.min_eq_left hKL, pre_take (hpre k h8 hcl), HD.out]
              have hRC2 := (hRC.below hbB).setAll h8 (((m.f k).lasts ++ D.take K))
              have hst : upP (fallN m.f keep k) k ⟨((m.f k).lasts ++ D.take K), ((m.f k).lasts ++ D.take K), false⟩ = fallN m.f keep (k + 1) := by
                rw [← fallN_step]
                show _ = upP _ k ((fallN m.f keep k k).crash (keepAt keep k))
                rw [hfk]
                unfold PF.crash
                rw [hrest.out]
              dsimp only at hRC2
              rw [hst] at hRC2
              have hTh : ((wr.alloc (.cells #[.string (strOfNums (m.f k).told), .string (strOfNums (m.f k).lasts), .bool false] 58)).drewN nq).there g (k * 3) 3 := fun j hj => by
                have hh := hRC.below hbB
                rw [hh.cells (k * 3 + j) (by omega)]
                exact ⟨rfl, hh.free _⟩
              have hC2 := ((Ch.of_below hbB (fun j => j = g)).mono (fun _ _ e => e)).trans (Ch.setCells g [.string (strOfNums (((m.f k).lasts ++ D.take K))), .string (strOfNums (((m.f k).lasts ++ D.take K))), .bool false] (k * 3) ((wr.alloc (.cells #[.string (strOfNums (m.f k).told), .string (strOfNums (m.f k).lasts), .bool false] 58)).drewN nq))
              have hC3 := hC.trans hC2
              clear hRC hst hrest
              go_wp2_with (refine wpList_store_mid rfl 58 (.tmp 65) (.tmp 62) rfl g (k * 3) #[.string (strOfNums (((m.f k).lasts ++ D.take K))), .string (strOfNums (((m.f k).lasts ++ D.take K))), .bool false] rfl rfl hTh sizeRf (oneRf _ _ _) ?_)
              go_roundw
              case rel => exact ⟨k + 1, by omega, by go_num, hRC2, hC3⟩
              case measure => simp [intOf]; omega
            · have hKi : (D.length : Int) < (K : Int) := by have := HL.out; omega
              have hex1 : (strOfNums (m.f k).told).extract (m.f k).lasts.length (m.f k).told.length = strOfNums D := by rw [← HD.out]; exact str_drop _ _
              have hsz1 : (strOfNums (m.f k).told).size = (m.f k).told.length := strOfNums_size _
              have hsz2 : (strOfNums (m.f k).lasts).size = (m.f k).lasts.length := strOfNums_size _
              have hsz3 : (strOfNums D).size = D.length := strOfNums_size _
              have hex2 : (strOfNums D).extract 0 D.length = strOfNums D := (str_take _ _).trans (by rw [List.take_length])
              have hle4 : D.length ≤ (m.f k).told.length := Nat.le_trans (Nat.le_refl _) hDle
              have happ : strOfNums (m.f k).lasts ++ strOfNums D = strOfNums ((m.f k).lasts ++ D) := str_app _ _
              have hk0 : (0 : Int) ≤ (K : Int) := by omega
              have hle0 : ((m.f k).lasts.length : Int) ≤ ((m.f k).told.length : Int) := by omega
              have hn4 : (m.f k).told.length ≤ 549755813888 := hn k h8
              have hn5 : (m.f k).lasts.length ≤ 549755813888 := Nat.le_trans hple hn4
              go_wp2_with fail
              go_quiet (fail)
              replace hbB := below_drewN hbB nq
              have hrest : Hid ((m.f k).rest (keepAt keep k) = ((m.f k).lasts ++ D)) := by
                unfold Hid PF.rest
                rw [hkv, if_neg (by omega)]
                unfold PF.sure
                rw [hcl]
                simp only [Bool.false_eq_true, if_false, Int.toNat_natCast]
                rw [Nat.min_eq_right (by omega), ← HL.out, pre_take (hpre k h8 hcl), HD.out, List.take_length]
              have hRC2 := (hRC.below hbB).setAll h8 (((m.f k).lasts ++ D))
              have hst : upP (fallN m.f keep k) k ⟨((m.f k).lasts ++ D), ((m.f k).lasts ++ D), false⟩ = fallN m.f keep (k + 1) := by
                rw [← fallN_step]
                show _ = upP _ k ((fallN m.f keep k k).crash (keepAt keep k))
                rw [hfk]
                unfold PF.crash
                rw [hrest.out]
              dsimp only at hRC2
              rw [hst] at hRC2
              have hTh : ((wr.alloc (.cells #[.string (strOfNums (m.f k).told), .string (strOfNums (m.f k).lasts), .bool false] 58)).drewN nq).there g (k * 3) 3 := fun j hj => by
                have hh := hRC.below hbB
                rw [hh.cells (k * 3 + j) (by omega)]
                exact ⟨rfl, hh.free _⟩
              have hC2 := ((Ch.of_below hbB (fun j => j = g)).mono (fun _ _ e => e)).trans (Ch.setCells g [.string (strOfNums (((m.f k).lasts ++ D))), .string (strOfNums (((m.f k).lasts ++ D))), .bool false] (k * 3) ((wr.alloc (.cells #[.string (strOfNums (m.f k).told), .string (strOfNums (m.f k).lasts), .bool false] 58)).drewN nq))
              have hC3 := hC.trans hC2
              clear hRC hst hrest
              go_wp2_with (refine wpList_store_mid rfl 58 (.tmp 65) (.tmp 62) rfl g (k * 3) #[.string (strOfNums (((m.f k).lasts ++ D))), .string (strOfNums (((m.f k).lasts ++ D))), .bool false] rfl rfl hTh sizeRf (oneRf _ _ _) ?_)
              go_roundw
              case rel => exact ⟨k + 1, by omega, by go_num, hRC2, hC3⟩
              case measure => simp [intOf]; omega
      · have hkli : ¬ (k : Int) < (l : Int) := by omega
        have hkv := keepAt_none' keep (i := k) (by omega)
        have hrest : Hid ((m.f k).rest (keepAt keep k) = (m.f k).lasts) := by
          unfold Hid PF.rest
          rw [if_pos hkv]
        have hRC2 := (hRC.below hbB).setAll h8 ((m.f k).lasts)
        have hst : upP (fallN m.f keep k) k ⟨(m.f k).lasts, (m.f k).lasts, false⟩ = fallN m.f keep (k + 1) := by
          rw [← fallN_step]
          show _ = upP _ k ((fallN m.f keep k k).crash (keepAt keep k))
          rw [hfk]
          unfold PF.crash
          rw [hrest.out]
        dsimp only at hRC2
        rw [hst] at hRC2
        have hTh : (wr.alloc (.cells #[.string (strOfNums (m.f k).told), .string (strOfNums (m.f k).lasts), .bool (m.f k).cl] 58)).there g (k * 3) 3 := fun j hj => by
          have hh := hRC.below hbB
          rw [hh.cells (k * 3 + j) (by omega)]
          exact ⟨rfl, hh.free _⟩
        have hC2 := ((Ch.of_below hbB (fun j => j = g)).mono (fun _ _ e => e)).trans (Ch.setCells g [.string (strOfNums ((m.f k).lasts)), .string (strOfNums ((m.f k).lasts)), .bool false] (k * 3) (wr.alloc (.cells #[.string (strOfNums (m.f k).told), .string (strOfNums (m.f k).lasts), .bool (m.f k).cl] 58)))
        have hC3 := hC.trans hC2
        clear hRC hst hrest
        have hk0 : ¬ (0 : Int) ≤ -1 := by decide
        go_wp2_with (refine wpList_store_mid rfl 58 (.tmp 65) (.tmp 62) rfl g (k * 3) #[.string (strOfNums ((m.f k).lasts)), .string (strOfNums ((m.f k).lasts)), .bool false] rfl rfl hTh sizeRf (oneRf _ _ _) ?_)
        go_roundw
        case rel => exact ⟨k + 1, by omega, by go_num, hRC2, hC3⟩
        case measure => simp [intOf]; omega
    · obtain rfl : k = 8 := by omega
      have d1 := hRC.down
      have f1 := hRC.free 25
      have h1 := hRC.setDown true
      have d2 := h1.left
      have f2 := hRC.free 26
      have h2 : RC ((wr.setCell ⟨g, 25, none⟩ (.bool true)).setCell ⟨g, 26, none⟩ (.int .i64 0)) g _ kk := h1.setLeft 0
      have d3 := h2.keep
      have f3 := hRC.free 27
      have h3 := h2.setKeep none 0 0 []
      have hcE := hC.trans ((Ch.cells2 wr g 25 26 (.bool true) (.int .i64 0)).trans (Ch.setCell _ ⟨g, 27, none⟩ (.slice none 0 0)))
      clear h1 h2 hRC
      generalize m.down = md at *
      generalize m.left = ml at *
      obtain ⟨k1, k2, k3⟩ := kk
      dsimp only at *
      go_wp2_with fail
      go_end0
      exact ⟨rfl, h3, hcE⟩

end Go.Proofs.YtpjhadaiodnnaaaGreat.M
end

section
namespace Go.Proofs.YtpjhadaiodnnaaaGreat.M
open Go.ChangeShapes Go.WideShapes Go.ChangeAt Go.RowKit

/-- The reference's disk, and what it is to keep. -/
structure RD (w : World) (g : Nat) (m : PD) (k : Sl) : Prop where
  rc : RC w g m k
  keep : Rd .i64 w k.p k.n k.c m.keep
  ne : ∀ x, k.p = some x → 0 < k.n → x.block ≠ g

/-- Behind a call: what is to be kept is as it was, or new. -/
def RAfter (g : Nat) (k : Sl) (w w' : World) (m' : PD) : Prop := ∃ k', RD w' g m' k' ∧ (∀ x, k'.p = some x → 0 < k'.n → k' = k ∨ w.heap.size ≤ x.block) ∧ Ch (fun j => j = g) w w'

theorem RD.below {w w' : World} {g : Nat} {m : PD} {k : Sl} (h : RD w g m k) (hb : Below w.heap.size w w') : RD w' g m k := ⟨h.rc.below hb, h.keep.below' hb, h.ne⟩

theorem RAfter.before {g : Nat} {k : Sl} {w w1 w' : World} {m' : PD} (hb : Below w.heap.size w w1) (h : RAfter g k w1 w' m') : RAfter g k w w' m' := by
  obtain ⟨k', h1, h2, h3⟩ := h
  exact ⟨k', h1, fun x e h0 => (h2 x e h0).imp id fun h => Nat.le_trans hb.size h, (Ch.of_below hb _).trans h3⟩

theorem RAfter.same {g : Nat} {k : Sl} {w w' : World} {m : PD} (h : RD w g m k) (hb : Below w.heap.size w w') : RAfter g k w w' m :=
  ⟨k, h.below hb, fun _ _ _ => Or.inl rfl, Ch.of_below hb _⟩

/-- Its own block changed. -/
theorem RAfter.mend {g : Nat} {k : Sl} {w w' : World} {m m' : PD} (h : RD w g m k) (hc : Ch (fun j => j = g) w w') (hr : RC w' g m' k) (hk : m'.keep = m.keep) : RAfter g k w w' m' :=
  ⟨k, ⟨hr, by rw [hk]; exact h.keep.ch0 hc h.ne, h.ne⟩, fun _ _ _ => Or.inl rfl, hc⟩

/-- Without power. -/
theorem RAfter.fell {g : Nat} {k : Sl} {w w' : World} {m' : PD} (hc : Ch (fun j => j = g) w w') (hr : RC w' g m' ⟨none, 0, 0⟩) (hk : m'.keep = []) : RAfter g k w w' m' :=
  ⟨⟨none, 0, 0⟩, ⟨hr, by rw [hk]; exact Rd.empty _ _ _ _ (fun _ => rfl), (fun _ e _ => by cases e)⟩, (fun _ e _ => by cases e), hc⟩

theorem act_of0 (m : PD) (n : Nat) (X : Nat → Nat → PF) (h : m.left = 0) : m.act n X = { m with f := X n } := if_pos h
theorem act_of1 (m : PD) (n : Nat) (X : Nat → Nat → PF) (h : m.left ≠ 0) (h2 : m.left ≤ n) : m.act n X = ({ m with f := X m.left } : PD).fall m.keep := (if_neg h).trans (if_pos h2)
theorem act_of2 (m : PD) (n : Nat) (X : Nat → Nat → PF) (h : m.left ≠ 0) (h2 : ¬ m.left ≤ n) : m.act n X = { m with left := m.left - n, f := X n } := (if_neg h).trans (if_neg h2)

/-- What was synced is a beginning of what is told. -/
def PD.pre (m : PD) : Prop := ∀ i, i < 8 → (m.f i).cl = false → (m.f i).lasts <+: (m.f i).told

set_option maxRecDepth 20000 in
set_option maxHeartbeats 1000000 in
theorem rClear_ok (w : World) (g : Nat) (m : PD) (k : Sl) (h : RD w g m k) (s : Nat) (hm : m.ok s) (hs : s ≤ 549755813888) (hp : m.pre) (hw : m.down = false) (i : Nat) (hi : i < 8) :
    Calls Tryz.prog 45 #[.pointer (some ⟨g, 0, none⟩), .int .i64 i] w fun e w' => e = .returned (.int .i64 (goneE (m.gone 1))) ∧ RAfter g k w w' (m.clearAt i) := by
  have hM := rmay_any w g m k h.rc i
  rw [hw, if_neg (show ¬ (false = true) by decide), if_neg (by omega)] at hM
  have hnn : ∀ j, j < 8 → (upP m.f i (⟨[], (m.f i).lasts, true⟩) j).told.length ≤ 549755813888 := fun j hj => Nat.le_trans (hm.up (Nat.le_refl _) i (⟨[], (m.f i).lasts, true⟩) (Nat.zero_le _) (hm.lasts i hi) j hj).1 hs
  have hpp : ∀ j, j < 8 → (upP m.f i (⟨[], (m.f i).lasts, true⟩) j).cl = false → (upP m.f i (⟨[], (m.f i).lasts, true⟩) j).lasts <+: (upP m.f i (⟨[], (m.f i).lasts, true⟩) j).told := fun j hj => by
    by_cases e : j = i
    · rw [e, upP_same]
      intro e2
      cases e2
    · rw [upP_other _ _ e]
      exact hp j hj
  by_cases h0 : m.left = 0
  · have HA : Hid (m.clearAt i = { m with f := upP m.f i (⟨[], (m.f i).lasts, true⟩) }) := act_of0 m 1 _ h0
    have HG : Hid (m.gone 1 = false) := decide_eq_false (by omega)
    have hB := rburn_none w g m k h.rc h0 1
    have c0 := h.rc.told hi
    have f0 := h.rc.free (i * 3)
    have hR1 : RC (w.setCell ⟨g, i * 3, none⟩ (.string ⟨#[]⟩)) g _ k := h.rc.setTold hi []
    have c2 := hR1.cl hi
    have f2 := h.rc.free (i * 3 + 2)
    have hRS := hR1.setCl hi true
    dsimp only at hRS c2
    rw [upP_same] at c2
    rw [upP_same, upP_up] at hRS
    dsimp only at hRS c2
    have hcS := (Ch.cells2 w g (i * 3) (i * 3 + 2) (.string ⟨#[]⟩) (.bool true))
    clear hR1
    have hfin := RAfter.mend h hcS hRS rfl
    clear hRS h hp hpp
    generalize (m.f i) = fl at *
    obtain ⟨ft, fls, fc⟩ := fl
    dsimp only at *
    go_enter Tryz.func45, Tryz.ntmps45
    go_wp2_with fail
    refine hM.mono ?_
    rintro e w1 ⟨rfl, rfl⟩
    go_wp2_with fail
    refine hB.mono ?_
    rintro e w2 ⟨rfl, rfl⟩
    go_wp2_with fail
    go_ret
    exact ⟨by rw [HG.out]; rfl, by rw [HA.out]; exact hfin⟩
  · by_cases h1 : m.left ≤ 1
    · have HA : Hid (m.clearAt i = ({ m with f := upP m.f i (⟨[], (m.f i).lasts, true⟩) } : PD).fall m.keep) := act_of1 m 1 _ h0 h1
      have HG : Hid (m.gone 1 = true) := decide_eq_true (by omega)
      have hB := rburn_out w g m k h.rc (by omega) 1 h1
      have c0 := h.rc.told hi
      have f0 := h.rc.free (i * 3)
      have hR1 : RC (w.setCell ⟨g, i * 3, none⟩ (.string ⟨#[]⟩)) g _ k := h.rc.setTold hi []
      have c2 := hR1.cl hi
      have f2 := h.rc.free (i * 3 + 2)
      have hRS := hR1.setCl hi true
      dsimp only at hRS c2
      rw [upP_same] at c2
      rw [upP_same, upP_up] at hRS
      dsimp only at hRS c2
      have hcS := (Ch.cells2 w g (i * 3) (i * 3 + 2) (.string ⟨#[]⟩) (.bool true))
      clear hR1
      have hrk := h.keep.ch0 hcS h.ne
      have hkl := h.keep.len
      have hmk := hm.keep
      have hF := rfall_any _ g _ k hRS k.p k.n k.c m.keep hrk (by omega) h.ne hnn hpp
      have hck := hRS.keep
      clear hRS h hp hpp hrk
      generalize (m.f i) = fl at *
      obtain ⟨ft, fls, fc⟩ := fl
      obtain ⟨k1, k2, k3⟩ := k
      dsimp only at *
      go_enter Tryz.func45, Tryz.ntmps45
      go_wp2_with fail
      refine hM.mono ?_
      rintro e w1 ⟨rfl, rfl⟩
      go_wp2_with fail
      refine hB.mono ?_
      rintro e w2 ⟨rfl, rfl⟩
      go_wp2_with fail
      refine hF.mono ?_
      rintro e w3 ⟨rfl, hR3, hc3⟩
      have hfin := RAfter.fell (k := ⟨k1, k2, k3⟩) (hcS.trans hc3) hR3 rfl
      clear hR3
      go_wp2_with fail
      go_ret
      exact ⟨by rw [HG.out]; rfl, by rw [HA.out]; exact hfin⟩
    · have HA : Hid (m.clearAt i = { m with left := m.left - 1, f := upP m.f i (⟨[], (m.f i).lasts, true⟩) }) := act_of2 m 1 _ h0 h1
      have HG : Hid (m.gone 1 = false) := decide_eq_false (by omega)
      have hB := rburn_on w g m k h.rc 1 (by omega) hm.left
      have hL := h.rc.setLeft (m.left - 1)
      have hcL := Ch.setCell w ⟨g, 26, none⟩ (.int .i64 ((m.left - 1 : Nat) : Int))
      dsimp only at hcL
      have c0 := hL.told hi
      have f0 := hL.free (i * 3)
      have hR1 : RC ((w.setCell ⟨g, 26, none⟩ (.int .i64 ((m.left - 1 : Nat) : Int))).setCell ⟨g, i * 3, none⟩ (.string ⟨#[]⟩)) g _ k := hL.setTold hi []
      have c2 := hR1.cl hi
      have f2 := hL.free (i * 3 + 2)
      have hRS := hR1.setCl hi true
      dsimp only at hRS c2
      rw [upP_same] at c2
      rw [upP_same, upP_up] at hRS
      dsimp only at hRS c2
      have hcS := (Ch.cells2 (w.setCell ⟨g, 26, none⟩ (.int .i64 ((m.left - 1 : Nat) : Int))) g (i * 3) (i * 3 + 2) (.string ⟨#[]⟩) (.bool true))
      clear hR1
      have hfin := RAfter.mend h (hcL.trans hcS) hRS rfl
      clear hRS h hp hpp hL
      generalize (m.f i) = fl at *
      obtain ⟨ft, fls, fc⟩ := fl
      dsimp only at *
      generalize hW : w.setCell ⟨g, 26, none⟩ (.int .i64 ((m.left - 1 : Nat) : Int)) = wL at *
      go_enter Tryz.func45, Tryz.ntmps45
      go_wp2_with fail
      refine hM.mono ?_
      rintro e w1 ⟨rfl, rfl⟩
      go_wp2_with fail
      refine hB.mono ?_
      rintro e w2 ⟨rfl, rfl⟩
      go_wp2_with fail
      go_ret
      exact ⟨by rw [HG.out]; rfl, by rw [HA.out]; exact hfin⟩

set_option maxRecDepth 20000 in
set_option maxHeartbeats 1000000 in
theorem rSync_ok (w : World) (g : Nat) (m : PD) (k : Sl) (h : RD w g m k) (s : Nat) (hm : m.ok s) (hs : s ≤ 549755813888) (hp : m.pre) (hw : m.down = false) (i : Nat) (hi : i < 8) :
    Calls Tryz.prog 37 #[.pointer (some ⟨g, 0, none⟩), .int .i64 i] w fun e w' => e = .returned (.int .i64 (goneE (m.gone 1))) ∧ RAfter g k w w' (m.syncAt i) := by
  have hM := rmay_any w g m k h.rc i
  rw [hw, if_neg (show ¬ (false = true) by decide), if_neg (by omega)] at hM
  have hnn : ∀ j, j < 8 → (upP m.f i (⟨(m.f i).told, (m.f i).told, false⟩) j).told.length ≤ 549755813888 := fun j hj => Nat.le_trans (hm.up (Nat.le_refl _) i (⟨(m.f i).told, (m.f i).told, false⟩) (hm.told i hi) (hm.told i hi) j hj).1 hs
  have hpp : ∀ j, j < 8 → (upP m.f i (⟨(m.f i).told, (m.f i).told, false⟩) j).cl = false → (upP m.f i (⟨(m.f i).told, (m.f i).told, false⟩) j).lasts <+: (upP m.f i (⟨(m.f i).told, (m.f i).told, false⟩) j).told := fun j hj => by
    by_cases e : j = i
    · rw [e, upP_same]
      exact fun _ => List.prefix_refl _
    · rw [upP_other _ _ e]
      exact hp j hj
  by_cases h0 : m.left = 0
  · have HA : Hid (m.syncAt i = { m with f := upP m.f i (⟨(m.f i).told, (m.f i).told, false⟩) }) := act_of0 m 1 _ h0
    have HG : Hid (m.gone 1 = false) := decide_eq_false (by omega)
    have hB := rburn_none w g m k h.rc h0 1
    have c0 := h.rc.told hi
    have c1 := h.rc.lasts hi
    have f1 := h.rc.free (i * 3 + 1)
    have hR1 := h.rc.setLasts hi (m.f i).told
    have c2 := hR1.cl hi
    have f2 := h.rc.free (i * 3 + 2)
    have f3 := hR1.free (i * 3 + 2)
    have hRS := (hR1.setCl hi false).below ((Below.refl _ _).drew)
    dsimp only at hRS c2
    rw [upP_same] at c2
    rw [upP_same, upP_up] at hRS
    dsimp only at hRS c2
    have hcS := (Ch.cells2 w g (i * 3 + 1) (i * 3 + 2) (.string (strOfNums (m.f i).told)) (.bool false)).trans (Ch.of_below ((Below.refl _ _).drew) _)
    clear hR1
    have hfin := RAfter.mend h hcS hRS rfl
    clear hRS h hp hpp
    generalize (m.f i) = fl at *
    obtain ⟨ft, fls, fc⟩ := fl
    dsimp only at *
    go_enter Tryz.func37, Tryz.ntmps37
    go_wp2_with fail
    refine hM.mono ?_
    rintro e w1 ⟨rfl, rfl⟩
    go_wp2_with fail
    refine hB.mono ?_
    rintro e w2 ⟨rfl, rfl⟩
    go_wp2_with fail
    go_region
    go_wp2_with fail
    go_ret
    exact ⟨by rw [HG.out]; rfl, by rw [HA.out]; exact hfin⟩
  · by_cases h1 : m.left ≤ 1
    · have HA : Hid (m.syncAt i = ({ m with f := upP m.f i (⟨(m.f i).told, (m.f i).told, false⟩) } : PD).fall m.keep) := act_of1 m 1 _ h0 h1
      have HG : Hid (m.gone 1 = true) := decide_eq_true (by omega)
      have hB := rburn_out w g m k h.rc (by omega) 1 h1
      have c0 := h.rc.told hi
      have c1 := h.rc.lasts hi
      have f1 := h.rc.free (i * 3 + 1)
      have hR1 := h.rc.setLasts hi (m.f i).told
      have c2 := hR1.cl hi
      have f2 := h.rc.free (i * 3 + 2)
      have f3 := hR1.free (i * 3 + 2)
      have hRS := (hR1.setCl hi false).below ((Below.refl _ _).drew)
      dsimp only at hRS c2
      rw [upP_same] at c2
      rw [upP_same, upP_up] at hRS
      dsimp only at hRS c2
      have hcS := (Ch.cells2 w g (i * 3 + 1) (i * 3 + 2) (.string (strOfNums (m.f i).told)) (.bool false)).trans (Ch.of_below ((Below.refl _ _).drew) _)
      clear hR1
      have hrk := h.keep.ch0 hcS h.ne
      have hkl := h.keep.len
      have hmk := hm.keep
      have hF := rfall_any _ g _ k hRS k.p k.n k.c m.keep hrk (by omega) h.ne hnn hpp
      have hck := hRS.keep
      clear hRS h hp hpp hrk
      generalize (m.f i) = fl at *
      obtain ⟨ft, fls, fc⟩ := fl
      obtain ⟨k1, k2, k3⟩ := k
      dsimp only at *
      go_enter Tryz.func37, Tryz.ntmps37
      go_wp2_with fail
      refine hM.mono ?_
      rintro e w1 ⟨rfl, rfl⟩
      go_wp2_with fail
      refine hB.mono ?_
      rintro e w2 ⟨rfl, rfl⟩
      go_wp2_with fail
      go_region
      go_wp2_with fail
      refine hF.mono ?_
      rintro e w3 ⟨rfl, hR3, hc3⟩
      have hfin := RAfter.fell (k := ⟨k1, k2, k3⟩) (hcS.trans hc3) hR3 rfl
      clear hR3
      go_wp2_with fail
      go_ret
      exact ⟨by rw [HG.out]; rfl, by rw [HA.out]; exact hfin⟩
    · have HA : Hid (m.syncAt i = { m with left := m.left - 1, f := upP m.f i (⟨(m.f i).told, (m.f i).told, false⟩) }) := act_of2 m 1 _ h0 h1
      have HG : Hid (m.gone 1 = false) := decide_eq_false (by omega)
      have hB := rburn_on w g m k h.rc 1 (by omega) hm.left
      have hL := h.rc.setLeft (m.left - 1)
      have hcL := Ch.setCell w ⟨g, 26, none⟩ (.int .i64 ((m.left - 1 : Nat) : Int))
      dsimp only at hcL
      have c0 := hL.told hi
      have c1 := hL.lasts hi
      have f1 := hL.free (i * 3 + 1)
      have hR1 := hL.setLasts hi (m.f i).told
      have c2 := hR1.cl hi
      have f2 := hL.free (i * 3 + 2)
      have f3 := hR1.free (i * 3 + 2)
      have hRS := (hR1.setCl hi false).below ((Below.refl _ _).drew)
      dsimp only at hRS c2
      rw [upP_same] at c2
      rw [upP_same, upP_up] at hRS
      dsimp only at hRS c2
      have hcS := (Ch.cells2 (w.setCell ⟨g, 26, none⟩ (.int .i64 ((m.left - 1 : Nat) : Int))) g (i * 3 + 1) (i * 3 + 2) (.string (strOfNums (m.f i).told)) (.bool false)).trans (Ch.of_below ((Below.refl _ _).drew) _)
      clear hR1
      have hfin := RAfter.mend h (hcL.trans hcS) hRS rfl
      clear hRS h hp hpp hL
      generalize (m.f i) = fl at *
      obtain ⟨ft, fls, fc⟩ := fl
      dsimp only at *
      generalize hW : w.setCell ⟨g, 26, none⟩ (.int .i64 ((m.left - 1 : Nat) : Int)) = wL at *
      go_enter Tryz.func37, Tryz.ntmps37
      go_wp2_with fail
      refine hM.mono ?_
      rintro e w1 ⟨rfl, rfl⟩
      go_wp2_with fail
      refine hB.mono ?_
      rintro e w2 ⟨rfl, rfl⟩
      go_wp2_with fail
      go_region
      go_wp2_with fail
      go_ret
      exact ⟨by rw [HG.out]; rfl, by rw [HA.out]; exact hfin⟩


set_option maxRecDepth 20000 in
theorem rCrash_ok (w : World) (g : Nat) (m : PD) (k : Sl) (h : RD w g m k) (s : Nat) (hm : m.ok s) (hs : s ≤ 549755813888) (hp : m.pre) (hw : m.down = false) (q : Option Addr) (l c : Nat) (keep : List Int) (hr : Rd .i64 w q l c keep) (hl : l ≤ 549755813888) (hq : ∀ x, q = some x → 0 < l → x.block ≠ g) :
    Calls Tryz.prog 18 #[.pointer (some ⟨g, 0, none⟩), .slice q l c] w fun e w' => e = .returned (.int .i64 0) ∧ RAfter g k w w' (m.fall keep) := by
  have hF := rfall_any w g m k h.rc q l c keep hr hl hq (fun i hi => Nat.le_trans (hm.told i hi) hs) hp
  have hd := h.rc.down
  rw [hw] at hd
  clear h hr
  go_enter Tryz.func18, Tryz.ntmps18
  go_wp2_with fail
  refine hF.mono ?_
  rintro e w2 ⟨rfl, hR, hc⟩
  have hfin := RAfter.fell (k := k) hc hR rfl
  clear hR
  go_wp2_with fail
  go_ret
  exact ⟨rfl, hfin⟩

set_option maxRecDepth 20000 in
theorem rCrash_down (w : World) (g : Nat) (m : PD) (k : Sl) (h : RD w g m k) (hw : m.down = true) (q : Option Addr) (l c : Nat) :
    Calls Tryz.prog 18 #[.pointer (some ⟨g, 0, none⟩), .slice q l c] w fun e w' => e = .returned (.int .i64 50) ∧ w' = w := by
  have hd := h.rc.down
  rw [hw] at hd
  clear h
  go_enter Tryz.func18, Tryz.ntmps18
  go_wp2_with fail
  go_ret
  exact ⟨rfl, rfl⟩

set_option maxRecDepth 20000 in
theorem rArm_down (w : World) (g : Nat) (m : PD) (k : Sl) (h : RD w g m k) (hw : m.down = true) (n : Int) (q : Option Addr) (l c : Nat) :
    Calls Tryz.prog 20 #[.pointer (some ⟨g, 0, none⟩), .int .i64 n, .slice q l c] w fun e w' => e = .returned (.int .i64 50) ∧ w' = w := by
  have hd := h.rc.down
  rw [hw] at hd
  clear h
  go_enter Tryz.func20, Tryz.ntmps20
  go_wp2_with fail
  go_ret
  exact ⟨rfl, rfl⟩

set_option maxRecDepth 20000 in
theorem rArm_low (w : World) (g : Nat) (m : PD) (k : Sl) (h : RD w g m k) (hw : m.down = false) (n : Int) (hn : n < 1) (q : Option Addr) (l c : Nat) :
    Calls Tryz.prog 20 #[.pointer (some ⟨g, 0, none⟩), .int .i64 n, .slice q l c] w fun e w' => e = .returned (.int .i64 1) ∧ w' = w := by
  have hd := h.rc.down
  rw [hw] at hd
  clear h
  go_enter Tryz.func20, Tryz.ntmps20
  go_wp2_with fail
  go_ret
  exact ⟨rfl, rfl⟩

set_option maxRecDepth 20000 in
set_option maxHeartbeats 1000000 in
theorem rArm_ok (w : World) (g : Nat) (m : PD) (k : Sl) (h : RD w g m k) (hw : m.down = false) (n : Nat) (hn : 1 ≤ n) (q : Option Addr) (l c : Nat) (ks : List Int) (hy : Rd .i64 w q l c ks) (hl : l ≤ 549755813888) (hq : ∀ x, q = some x → 0 < l → x.block ≠ g) :
    Calls Tryz.prog 20 #[.pointer (some ⟨g, 0, none⟩), .int .i64 n, .slice q l c] w fun e w' => e = .returned (.int .i64 0) ∧ RAfter g k w w' { m with left := n, keep := ks } := by
  obtain ⟨i0, hi0, hz0, hz1, hz2⟩ := info_parts infoI
  have hd := h.rc.down
  rw [hw] at hd
  have c26 := h.rc.left
  have f26 := h.rc.free 26
  have h1 := h.rc.setLeft n
  have hc1 := Ch.setCell w ⟨g, 26, none⟩ (.int .i64 (n : Int))
  dsimp only at hc1
  have hy1 := hy.ch0 hc1 hq
  have hlt := h.rc.lt
  have hsz := hc1.size
  generalize hW1 : w.setCell ⟨g, 26, none⟩ (.int .i64 (n : Int)) = w1 at *
  have hba : Below w1.heap.size w1 (w1.alloc (.cells #[] 3)) := (Below.refl _ _).alloc (Nat.le_refl _) _
  have ho : OwS .i64 3 (w1.alloc (.cells #[] 3)) w1.heap.size (some ⟨w1.heap.size, 0, none⟩) 0 0 [] := World.ownsRow_made w1 #[] 0 (Nat.le_refl _) (Nat.zero_le _) rfl
  have hya := hy1.below' hba
  have hRa := h1.below hba
  clear h h1 hy hy1
  go_enter Tryz.func20, Tryz.ntmps20
  go_wp2_with (refine wpList_app2 _ rfl (.tmp 18) (.tmp 19) 42 rfl .i64 3 i0 (.int .i64 0) 8 Tryz.underlying42 hi0 hz0 hz1 hz2 rfl w1.heap.size _ 0 0 [] rfl ho q l c ks rfl hya ?c1 ?c2 ?c3 ?_)
  case c1 => omega
  case c2 => unfold maxLen; omega
  case c3 => simp
  intro p' c' w' h2 hg
  have hch := hg.ch (fun k => w1.heap.size ≤ k) (fun x e => by cases e; exact Nat.le_refl _)
  have hb2 : Below w1.heap.size (w1.alloc (.cells #[] 3)) w' := hch.below (by simp) (fun k e => e)
  have hbt := hba.trans hb2
  have hR2 := hRa.ch hch (by show ¬ w1.heap.size ≤ g; omega)
  have c27 := hR2.keep
  have f27 := hR2.free 27
  have hR3 := hR2.setKeep p' l c' ks
  have hc3 := Ch.setCell w' ⟨g, 27, none⟩ (.slice p' l c')
  dsimp only at hc3
  have hfin : RAfter g k w (w'.setCell ⟨g, 27, none⟩ (.slice p' l c')) { m with left := n, keep := ks } :=
    ⟨⟨p', l, c'⟩, ⟨hR3, (h2.rd.ch0 hc3 (fun x e _ => by have := (h2.lt e).1; omega)), (fun x e _ => by have := (h2.lt e).1; omega)⟩, (fun x e _ => Or.inr (by have := (h2.lt e).1; omega)), (hc1.trans (Ch.of_below hbt _)).trans hc3⟩
  clear hg hch hR2 hR3 hRa hya ho h2
  obtain ⟨k1, k2, k3⟩ := k
  dsimp only at *
  go_wp2_with fail
  go_ret
  exact ⟨rfl, hfin⟩

end Go.Proofs.YtpjhadaiodnnaaaGreat.M
end

section
namespace Go.Proofs.YtpjhadaiodnnaaaGreat.M
open Go.ChangeShapes Go.WideShapes Go.ChangeAt Go.RowKit

theorem used_le {m : PD} {s : Nat} (h : m.ok s) : m.used ≤ 8 * s := by
  have t0 := h.told 0 (by decide)
  have t1 := h.told 1 (by decide)
  have t2 := h.told 2 (by decide)
  have t3 := h.told 3 (by decide)
  have t4 := h.told 4 (by decide)
  have t5 := h.told 5 (by decide)
  have t6 := h.told 6 (by decide)
  have t7 := h.told 7 (by decide)
  unfold PD.used
  omega

set_option maxRecDepth 20000 in
theorem rAppend_bad (w : World) (g : Nat) (i k : Int) (hk : (k != 0) = true) (q : Option Addr) (l c : Nat) (hM : Calls Tryz.prog 63 #[.pointer (some ⟨g, 0, none⟩), .int .i64 i] w fun e w' => e = .returned (.int .i64 k) ∧ w' = w) :
    Calls Tryz.prog 46 #[.pointer (some ⟨g, 0, none⟩), .int .i64 i, .slice q l c] w fun e w' => e = .returned (.int .i64 k) ∧ w' = w := by
  go_enter Tryz.func46, Tryz.ntmps46
  go_wp2_with fail
  refine hM.mono ?_
  rintro e w1 ⟨rfl, rfl⟩
  go_wp2_with fail
  go_ret
  exact ⟨rfl, rfl⟩

set_option maxRecDepth 20000 in
theorem rClear_bad (w : World) (g : Nat) (i k : Int) (hk : (k != 0) = true) (hM : Calls Tryz.prog 63 #[.pointer (some ⟨g, 0, none⟩), .int .i64 i] w fun e w' => e = .returned (.int .i64 k) ∧ w' = w) :
    Calls Tryz.prog 45 #[.pointer (some ⟨g, 0, none⟩), .int .i64 i] w fun e w' => e = .returned (.int .i64 k) ∧ w' = w := by
  go_enter Tryz.func45, Tryz.ntmps45
  go_wp2_with fail
  refine hM.mono ?_
  rintro e w1 ⟨rfl, rfl⟩
  go_wp2_with fail
  go_ret
  exact ⟨rfl, rfl⟩

set_option maxRecDepth 20000 in
theorem rSync_bad (w : World) (g : Nat) (i k : Int) (hk : (k != 0) = true) (hM : Calls Tryz.prog 63 #[.pointer (some ⟨g, 0, none⟩), .int .i64 i] w fun e w' => e = .returned (.int .i64 k) ∧ w' = w) :
    Calls Tryz.prog 37 #[.pointer (some ⟨g, 0, none⟩), .int .i64 i] w fun e w' => e = .returned (.int .i64 k) ∧ w' = w := by
  go_enter Tryz.func37, Tryz.ntmps37
  go_wp2_with fail
  refine hM.mono ?_
  rintro e w1 ⟨rfl, rfl⟩
  go_wp2_with fail
  go_ret
  exact ⟨rfl, rfl⟩

set_option maxRecDepth 20000 in
theorem rRead_bad (w : World) (g : Nat) (i k : Int) (hk : (k != 0) = true) (hM : Calls Tryz.prog 63 #[.pointer (some ⟨g, 0, none⟩), .int .i64 i] w fun e w' => e = .returned (.int .i64 k) ∧ w' = w) :
    Calls Tryz.prog 33 #[.pointer (some ⟨g, 0, none⟩), .int .i64 i] w fun e w' => e = .returned (.tuple #[.slice none 0 0, .int .i64 k]) ∧ w' = w := by
  go_enter Tryz.func33, Tryz.ntmps33
  go_wp2_with fail
  refine hM.mono ?_
  rintro e w1 ⟨rfl, rfl⟩
  go_wp2_with fail
  go_ret2
  exact ⟨rfl, rfl⟩

set_option maxRecDepth 20000 in
theorem rAppend_full (w : World) (g : Nat) (m : PD) (k : Sl) (h : RD w g m k) (s : Nat) (hm : m.ok s) (hs : s ≤ 549755813888) (hw : m.down = false) (i : Nat) (hi : i < 8) (q : Option Addr) (l c : Nat) (hl : l ≤ 1099511627) (hu : m.room < m.used + l) :
    Calls Tryz.prog 46 #[.pointer (some ⟨g, 0, none⟩), .int .i64 i, .slice q l c] w fun e w' => e = .returned (.int .i64 7) ∧ Below w.heap.size w w' := by
  have hM := rmay_any w g m k h.rc i
  rw [hw, if_neg (show ¬ (false = true) by decide), if_neg (by omega)] at hM
  have hmu : m.used ≤ 8 * 549755813888 := Nat.le_trans (used_le hm) (Nat.mul_le_mul_left 8 hs)
  have cU : ∀ dd os, Calls Tryz.prog 80 #[.pointer (some ⟨g, 0, none⟩)] (Sort.grow (redrawn w dd) os) fun e w'' => e = .returned (.int .i64 m.used) ∧ ∃ p : Regrown, w'' = Sort.grow (redrawn w p.d) p.os := fun dd os => Calls.regrown_of (rused_any _ g m k (h.rc.below (below_regrown _ _ _)) (fun j hj => Nat.le_trans (hm.told j hj) hs))
  have c24 := h.rc.room
  have k24 := cell_regrown c24
  clear h
  generalize m.used = mu at *
  generalize m.room = mr at *
  have hgt : ((mr : Int)) < (mu : Int) + (l : Int) := by omega
  have hwr : IntKind.i64.wrap ((mu : Int) + (l : Int)) = (mu : Int) + (l : Int) := by rw [IntKind.wrap_i64]; omega
  go_enter Tryz.func46, Tryz.ntmps46
  go_wp2_with fail
  refine hM.mono ?_
  rintro e w1 ⟨rfl, rfl⟩
  go_wp2_with fail
  refine wp_region_quiet_below (by kernel_rfl) (by kernel_rfl) ?_
  repeat (with_reducible refine wpQuiet_step (fun K hK => ?_); go_simp; first | (with_reducible refine hK _ ?_; clear hK K) | (apply Exists.intro; refine ⟨fun _ => ?_, hK _ ?_⟩; ((go_at_call 80; with_reducible exact cU _ _)); clear hK K))
  with_reducible refine wpQuiet_nil ?_
  intro _ hw'
  obtain ⟨⟨dq, osq⟩, hw''⟩ := hw'
  subst hw''
  have hbq := below_regrown w1 dq osq
  go_wp2_with fail
  go_ret
  exact ⟨rfl, hbq⟩


set_option maxRecDepth 20000 in
set_option maxHeartbeats 4000000 in
theorem rAppend_none (w : World) (g : Nat) (m : PD) (k : Sl) (h : RD w g m k) (s : Nat) (hm : m.ok s) (hs : s ≤ 1099511627) (hp : m.pre) (hw : m.down = false) (i : Nat) (hi : i < 8) (qb qo l c : Nat) (ys : List Int) (hy : Rd .u8 w (some ⟨qb, qo, none⟩) l c ys) (hqg : 0 < l → qb ≠ g) (hl : l ≤ 1099511627) (hu : ¬ m.room < m.used + l) (h0 : m.left = 0) :
    Calls Tryz.prog 46 #[.pointer (some ⟨g, 0, none⟩), .int .i64 i, .slice (some ⟨qb, qo, none⟩) l c] w fun e w' => e = .returned (.int .i64 (goneE (m.gone l))) ∧ RAfter g k w w' (m.putAt i ys) := by
  have _ := hp
  have _ := hqg
  have hM := rmay_any w g m k h.rc i
  rw [hw, if_neg (show ¬ (false = true) by decide), if_neg (by omega)] at hM
  have hmu : m.used ≤ 8 * 1099511627 := Nat.le_trans (used_le hm) (Nat.mul_le_mul_left 8 hs)
  have cU : ∀ dd os, Calls Tryz.prog 80 #[.pointer (some ⟨g, 0, none⟩)] (Sort.grow (redrawn w dd) os) fun e w'' => e = .returned (.int .i64 m.used) ∧ ∃ p : Regrown, w'' = Sort.grow (redrawn w p.d) p.os := fun dd os => Calls.regrown_of (rused_any _ g m k (h.rc.below (below_regrown _ _ _)) (fun j hj => by have := hm.told j hj; omega))
  have c24 := h.rc.room
  have k24 := cell_regrown c24
  have hle : ¬ ((m.room : Int)) < (m.used : Int) + (l : Int) := by omega
  have hwr : IntKind.i64.wrap ((m.used : Int) + (l : Int)) = (m.used : Int) + (l : Int) := by rw [IntKind.wrap_i64]; omega
  have hly := hy.len
  have HA : Hid (m.putAt i ys = { m with f := upP m.f i { m.f i with told := (m.f i).told ++ ys.take l } }) := by unfold Hid PD.putAt; rw [hly]; exact act_of0 m l _ h0
  have HG : Hid (m.gone l = false) := decide_eq_false (by omega)
  have hlm := hm.left
  go_enter Tryz.func46, Tryz.ntmps46
  go_wp2_with fail
  refine hM.mono ?_
  rintro e w1 ⟨rfl, rfl⟩
  go_wp2_with fail
  refine wp_region_quiet_below (by kernel_rfl) (by kernel_rfl) ?_
  repeat (with_reducible refine wpQuiet_step (fun K hK => ?_); go_simp; first | (with_reducible refine hK _ ?_; clear hK K) | (apply Exists.intro; refine ⟨fun _ => ?_, hK _ ?_⟩; ((go_at_call 80; with_reducible exact cU _ _)); clear hK K))
  with_reducible refine wpQuiet_nil ?_
  intro _ hw'
  obtain ⟨⟨dq, osq⟩, hw''⟩ := hw'
  subst hw''
  have hbq := below_regrown w1 dq osq
  have h2 := h.below hbq
  have hy2 := hy.below' hbq
  clear cU k24 c24 hM
  generalize Sort.grow (redrawn w1 dq) osq = w2 at *
  have hB := rburn_none w2 g m k h2.rc h0 l
  go_wp2_with fail
  refine hB.mono ?_
  rintro e w3 ⟨rfl, rfl⟩
  have hR3 := h2.rc
  have hy3 := hy2
  have c0 := hR3.told hi
  have f0 := hR3.free (i * 3)
  have hcap := hy.cap
  have hNl : l ≤ l := Nat.le_refl _
  have hcv := (hy3.take hNl).conv (P := Tryz.prog) 40 5 9 Tryz.underlying40 Tryz.underlying5 Tryz.underlying9
  have hcd := ((hy3.below' ((Below.refl _ _).drew)).take hNl).conv (P := Tryz.prog) 40 5 9 Tryz.underlying40 Tryz.underlying5 Tryz.underlying9
  have hsz1 : (strOfNums (m.f i).told).size = (m.f i).told.length := strOfNums_size _
  have hsz2 : (strOfNums (ys.take l)).size = (ys.take l).length := strOfNums_size _
  have happ : strOfNums (m.f i).told ++ strOfNums (ys.take l) = strOfNums ((m.f i).told ++ ys.take l) := str_app _ _
  have hle2 : (ys.take l).length ≤ 1099511627 := Nat.le_trans (List.length_take_le' _ _) (by omega)
  have hto : (m.f i).told.length ≤ 1099511627 := Nat.le_trans (hm.told i hi) hs
  have hRS := (hR3.setTold hi ((m.f i).told ++ ys.take l)).below ((Below.refl _ _).drew)
  have hcS := (Ch.setCell w3 ⟨g, i * 3, none⟩ (.string (strOfNums ((m.f i).told ++ ys.take l)))).trans (Ch.of_below ((Below.refl _ _).drew) _)
  dsimp only at hRS hcS
  clear hB hy hy2 hy3 hR3
  have hfin := (RAfter.mend h2 hcS hRS rfl).before hbq
  clear hRS h h2 hp
  generalize (m.f i) = fl at *
  obtain ⟨ft, fls, fc⟩ := fl
  dsimp only at *
  go_wp2_with fail
  go_region
  go_wp2_with fail
  go_ret
  exact ⟨by rw [HG.out]; rfl, by rw [HA.out]; exact hfin⟩

set_option maxRecDepth 20000 in
set_option maxHeartbeats 4000000 in
theorem rAppend_out (w : World) (g : Nat) (m : PD) (k : Sl) (h : RD w g m k) (s : Nat) (hm : m.ok s) (hs : s ≤ 1099511627) (hp : m.pre) (hw : m.down = false) (i : Nat) (hi : i < 8) (qb qo l c : Nat) (ys : List Int) (hy : Rd .u8 w (some ⟨qb, qo, none⟩) l c ys) (hqg : 0 < l → qb ≠ g) (hl : l ≤ 1099511627) (hu : ¬ m.room < m.used + l) (h0 : m.left ≠ 0) (h1 : m.left ≤ l) :
    Calls Tryz.prog 46 #[.pointer (some ⟨g, 0, none⟩), .int .i64 i, .slice (some ⟨qb, qo, none⟩) l c] w fun e w' => e = .returned (.int .i64 (goneE (m.gone l))) ∧ RAfter g k w w' (m.putAt i ys) := by
  have _ := hp
  have _ := hqg
  have hM := rmay_any w g m k h.rc i
  rw [hw, if_neg (show ¬ (false = true) by decide), if_neg (by omega)] at hM
  have hmu : m.used ≤ 8 * 1099511627 := Nat.le_trans (used_le hm) (Nat.mul_le_mul_left 8 hs)
  have cU : ∀ dd os, Calls Tryz.prog 80 #[.pointer (some ⟨g, 0, none⟩)] (Sort.grow (redrawn w dd) os) fun e w'' => e = .returned (.int .i64 m.used) ∧ ∃ p : Regrown, w'' = Sort.grow (redrawn w p.d) p.os := fun dd os => Calls.regrown_of (rused_any _ g m k (h.rc.below (below_regrown _ _ _)) (fun j hj => by have := hm.told j hj; omega))
  have c24 := h.rc.room
  have k24 := cell_regrown c24
  have hle : ¬ ((m.room : Int)) < (m.used : Int) + (l : Int) := by omega
  have hwr : IntKind.i64.wrap ((m.used : Int) + (l : Int)) = (m.used : Int) + (l : Int) := by rw [IntKind.wrap_i64]; omega
  have hly := hy.len
  have HA : Hid (m.putAt i ys = ({ m with f := upP m.f i { m.f i with told := (m.f i).told ++ ys.take m.left } } : PD).fall m.keep) := by unfold Hid PD.putAt; rw [hly]; exact act_of1 m l _ h0 h1
  have HG : Hid (m.gone l = true) := decide_eq_true (by omega)
  have hlm := hm.left
  go_enter Tryz.func46, Tryz.ntmps46
  go_wp2_with fail
  refine hM.mono ?_
  rintro e w1 ⟨rfl, rfl⟩
  go_wp2_with fail
  refine wp_region_quiet_below (by kernel_rfl) (by kernel_rfl) ?_
  repeat (with_reducible refine wpQuiet_step (fun K hK => ?_); go_simp; first | (with_reducible refine hK _ ?_; clear hK K) | (apply Exists.intro; refine ⟨fun _ => ?_, hK _ ?_⟩; ((go_at_call 80; with_reducible exact cU _ _)); clear hK K))
  with_reducible refine wpQuiet_nil ?_
  intro _ hw'
  obtain ⟨⟨dq, osq⟩, hw''⟩ := hw'
  subst hw''
  have hbq := below_regrown w1 dq osq
  have h2 := h.below hbq
  have hy2 := hy.below' hbq
  clear cU k24 c24 hM
  generalize Sort.grow (redrawn w1 dq) osq = w2 at *
  have hB := rburn_out w2 g m k h2.rc (by omega) l h1
  go_wp2_with fail
  refine hB.mono ?_
  rintro e w3 ⟨rfl, rfl⟩
  have hR3 := h2.rc
  have hy3 := hy2
  have c0 := hR3.told hi
  have f0 := hR3.free (i * 3)
  have hcap := hy.cap
  have hNl : m.left ≤ l := h1
  have hcv := (hy3.take hNl).conv (P := Tryz.prog) 40 5 9 Tryz.underlying40 Tryz.underlying5 Tryz.underlying9
  have hcd := ((hy3.below' ((Below.refl _ _).drew)).take hNl).conv (P := Tryz.prog) 40 5 9 Tryz.underlying40 Tryz.underlying5 Tryz.underlying9
  have hsz1 : (strOfNums (m.f i).told).size = (m.f i).told.length := strOfNums_size _
  have hsz2 : (strOfNums (ys.take m.left)).size = (ys.take m.left).length := strOfNums_size _
  have happ : strOfNums (m.f i).told ++ strOfNums (ys.take m.left) = strOfNums ((m.f i).told ++ ys.take m.left) := str_app _ _
  have hle2 : (ys.take m.left).length ≤ 1099511627 := Nat.le_trans (List.length_take_le' _ _) (by omega)
  have hto : (m.f i).told.length ≤ 1099511627 := Nat.le_trans (hm.told i hi) hs
  have hRS := (hR3.setTold hi ((m.f i).told ++ ys.take m.left)).below ((Below.refl _ _).drew)
  have hcS := (Ch.setCell w3 ⟨g, i * 3, none⟩ (.string (strOfNums ((m.f i).told ++ ys.take m.left)))).trans (Ch.of_below ((Below.refl _ _).drew) _)
  dsimp only at hRS hcS
  clear hB hy hy2 hy3 hR3
  have hck := hRS.keep
  have hrk := (h2.keep.ch0 hcS h2.ne)
  have hkl := h2.keep.len
  have hmk := hm.keep
  have hF := rfall_any _ g _ k hRS k.p k.n k.c m.keep hrk (by omega) h2.ne (fun j hj => Nat.le_trans (hm.up (Nat.le_add_right s 1099511627) i { m.f i with told := (m.f i).told ++ ys.take m.left } (by dsimp only; rw [List.length_append]; have := hm.told i hi; omega) (by dsimp only; have := hm.lasts i hi; omega) j hj).1 (by omega)) (fun j hj => by
    show (upP m.f i _ j).cl = false → (upP m.f i _ j).lasts <+: (upP m.f i _ j).told
    by_cases e : j = i
    · rw [e, upP_same]
      exact fun e2 => (hp i hi e2).trans (List.prefix_append _ _)
    · rw [upP_other _ _ e]
      exact hp j hj)
  clear hRS h h2 hp hrk
  generalize (m.f i) = fl at *
  obtain ⟨ft, fls, fc⟩ := fl
  obtain ⟨k1, k2, k3⟩ := k
  dsimp only at *
  go_wp2_with fail
  go_region
  go_wp2_with fail
  refine hF.mono ?_
  rintro e w4 ⟨rfl, hR4, hc4⟩
  have hfin := (RAfter.fell (k := ⟨k1, k2, k3⟩) (hcS.trans hc4) hR4 rfl).before hbq
  clear hR4
  go_wp2_with fail
  go_ret
  exact ⟨by rw [HG.out]; rfl, by rw [HA.out]; exact hfin⟩

set_option maxRecDepth 20000 in
set_option maxHeartbeats 4000000 in
theorem rAppend_on (w : World) (g : Nat) (m : PD) (k : Sl) (h : RD w g m k) (s : Nat) (hm : m.ok s) (hs : s ≤ 1099511627) (hp : m.pre) (hw : m.down = false) (i : Nat) (hi : i < 8) (qb qo l c : Nat) (ys : List Int) (hy : Rd .u8 w (some ⟨qb, qo, none⟩) l c ys) (hqg : 0 < l → qb ≠ g) (hl : l ≤ 1099511627) (hu : ¬ m.room < m.used + l) (h0 : m.left ≠ 0) (h1 : ¬ m.left ≤ l) :
    Calls Tryz.prog 46 #[.pointer (some ⟨g, 0, none⟩), .int .i64 i, .slice (some ⟨qb, qo, none⟩) l c] w fun e w' => e = .returned (.int .i64 (goneE (m.gone l))) ∧ RAfter g k w w' (m.putAt i ys) := by
  have _ := hp
  have _ := hqg
  have hM := rmay_any w g m k h.rc i
  rw [hw, if_neg (show ¬ (false = true) by decide), if_neg (by omega)] at hM
  have hmu : m.used ≤ 8 * 1099511627 := Nat.le_trans (used_le hm) (Nat.mul_le_mul_left 8 hs)
  have cU : ∀ dd os, Calls Tryz.prog 80 #[.pointer (some ⟨g, 0, none⟩)] (Sort.grow (redrawn w dd) os) fun e w'' => e = .returned (.int .i64 m.used) ∧ ∃ p : Regrown, w'' = Sort.grow (redrawn w p.d) p.os := fun dd os => Calls.regrown_of (rused_any _ g m k (h.rc.below (below_regrown _ _ _)) (fun j hj => by have := hm.told j hj; omega))
  have c24 := h.rc.room
  have k24 := cell_regrown c24
  have hle : ¬ ((m.room : Int)) < (m.used : Int) + (l : Int) := by omega
  have hwr : IntKind.i64.wrap ((m.used : Int) + (l : Int)) = (m.used : Int) + (l : Int) := by rw [IntKind.wrap_i64]; omega
  have hly := hy.len
  have HA : Hid (m.putAt i ys = { m with left := m.left - l, f := upP m.f i { m.f i with told := (m.f i).told ++ ys.take l } }) := by unfold Hid PD.putAt; rw [hly]; exact act_of2 m l _ h0 h1
  have HG : Hid (m.gone l = false) := decide_eq_false (by omega)
  have hlm := hm.left
  go_enter Tryz.func46, Tryz.ntmps46
  go_wp2_with fail
  refine hM.mono ?_
  rintro e w1 ⟨rfl, rfl⟩
  go_wp2_with fail
  refine wp_region_quiet_below (by kernel_rfl) (by kernel_rfl) ?_
  repeat (with_reducible refine wpQuiet_step (fun K hK => ?_); go_simp; first | (with_reducible refine hK _ ?_; clear hK K) | (apply Exists.intro; refine ⟨fun _ => ?_, hK _ ?_⟩; ((go_at_call 80; with_reducible exact cU _ _)); clear hK K))
  with_reducible refine wpQuiet_nil ?_
  intro _ hw'
  obtain ⟨⟨dq, osq⟩, hw''⟩ := hw'
  subst hw''
  have hbq := below_regrown w1 dq osq
  have h2 := h.below hbq
  have hy2 := hy.below' hbq
  clear cU k24 c24 hM
  generalize Sort.grow (redrawn w1 dq) osq = w2 at *
  have hB := rburn_on w2 g m k h2.rc l (by omega) hlm
  go_wp2_with fail
  refine hB.mono ?_
  rintro e w3 ⟨rfl, hw3⟩
  have hc3 := Ch.setCell w2 ⟨g, 26, none⟩ (.int .i64 ((m.left - l : Nat) : Int))
  have hR3 := h2.rc.setLeft (m.left - l)
  have hy3 := hy2.ch0 hc3 (fun x e h0 => by cases e; exact hqg h0)
  rw [← hw3] at hc3 hR3 hy3
  dsimp only at hc3
  clear hw3
  have c0 := hR3.told hi
  have f0 := hR3.free (i * 3)
  have hcap := hy.cap
  have hNl : l ≤ l := Nat.le_refl _
  have hcv := (hy3.take hNl).conv (P := Tryz.prog) 40 5 9 Tryz.underlying40 Tryz.underlying5 Tryz.underlying9
  have hcd := ((hy3.below' ((Below.refl _ _).drew)).take hNl).conv (P := Tryz.prog) 40 5 9 Tryz.underlying40 Tryz.underlying5 Tryz.underlying9
  have hsz1 : (strOfNums (m.f i).told).size = (m.f i).told.length := strOfNums_size _
  have hsz2 : (strOfNums (ys.take l)).size = (ys.take l).length := strOfNums_size _
  have happ : strOfNums (m.f i).told ++ strOfNums (ys.take l) = strOfNums ((m.f i).told ++ ys.take l) := str_app _ _
  have hle2 : (ys.take l).length ≤ 1099511627 := Nat.le_trans (List.length_take_le' _ _) (by omega)
  have hto : (m.f i).told.length ≤ 1099511627 := Nat.le_trans (hm.told i hi) hs
  have hRS := (hR3.setTold hi ((m.f i).told ++ ys.take l)).below ((Below.refl _ _).drew)
  have hcS := (Ch.setCell w3 ⟨g, i * 3, none⟩ (.string (strOfNums ((m.f i).told ++ ys.take l)))).trans (Ch.of_below ((Below.refl _ _).drew) _)
  dsimp only at hRS hcS
  clear hB hy hy2 hy3 hR3
  have hfin := (RAfter.mend h2 (hc3.trans hcS) hRS rfl).before hbq
  clear hRS h h2 hp
  generalize (m.f i) = fl at *
  obtain ⟨ft, fls, fc⟩ := fl
  dsimp only at *
  go_wp2_with fail
  go_region
  go_wp2_with fail
  go_ret
  exact ⟨by rw [HG.out]; rfl, by rw [HA.out]; exact hfin⟩

set_option maxRecDepth 20000 in
set_option maxHeartbeats 4000000 in
theorem rAppendN_none (w : World) (g : Nat) (m : PD) (k : Sl) (h : RD w g m k) (s : Nat) (hm : m.ok s) (hs : s ≤ 1099511627) (hp : m.pre) (hw : m.down = false) (i : Nat) (hi : i < 8) (hy : Rd .u8 w none 0 0 []) (hu : ¬ m.room < m.used + 0) (h0 : m.left = 0) :
    Calls Tryz.prog 46 #[.pointer (some ⟨g, 0, none⟩), .int .i64 i, .slice none 0 0] w fun e w' => e = .returned (.int .i64 (goneE (m.gone 0))) ∧ RAfter g k w w' (m.putAt i ([] : List Int)) := by
  have _ := hp
  have hM := rmay_any w g m k h.rc i
  rw [hw, if_neg (show ¬ (false = true) by decide), if_neg (by omega)] at hM
  have hmu : m.used ≤ 8 * 1099511627 := Nat.le_trans (used_le hm) (Nat.mul_le_mul_left 8 hs)
  have cU : ∀ dd os, Calls Tryz.prog 80 #[.pointer (some ⟨g, 0, none⟩)] (Sort.grow (redrawn w dd) os) fun e w'' => e = .returned (.int .i64 m.used) ∧ ∃ p : Regrown, w'' = Sort.grow (redrawn w p.d) p.os := fun dd os => Calls.regrown_of (rused_any _ g m k (h.rc.below (below_regrown _ _ _)) (fun j hj => by have := hm.told j hj; omega))
  have c24 := h.rc.room
  have k24 := cell_regrown c24
  have hle : ¬ ((m.room : Int)) < (m.used : Int) := by omega
  have hwr : IntKind.i64.wrap (m.used : Int) = (m.used : Int) := by rw [IntKind.wrap_i64]; omega
  have hly := hy.len
  have HA : Hid (m.putAt i ([] : List Int) = { m with f := upP m.f i { m.f i with told := (m.f i).told } }) := by unfold Hid PD.putAt; rw [hly, act_of0 m 0 _ h0]; simp
  have HG : Hid (m.gone 0 = false) := decide_eq_false (by omega)
  have hlm := hm.left
  go_enter Tryz.func46, Tryz.ntmps46
  go_wp2_with fail
  refine hM.mono ?_
  rintro e w1 ⟨rfl, rfl⟩
  go_wp2_with fail
  refine wp_region_quiet_below (by kernel_rfl) (by kernel_rfl) ?_
  repeat (with_reducible refine wpQuiet_step (fun K hK => ?_); go_simp; first | (with_reducible refine hK _ ?_; clear hK K) | (apply Exists.intro; refine ⟨fun _ => ?_, hK _ ?_⟩; ((go_at_call 80; with_reducible exact cU _ _)); clear hK K))
  with_reducible refine wpQuiet_nil ?_
  intro _ hw'
  obtain ⟨⟨dq, osq⟩, hw''⟩ := hw'
  subst hw''
  have hbq := below_regrown w1 dq osq
  have h2 := h.below hbq
  have hy2 := hy.below' hbq
  clear cU k24 c24 hM
  generalize Sort.grow (redrawn w1 dq) osq = w2 at *
  have hB := rburn_none w2 g m k h2.rc h0 0
  go_wp2_with fail
  refine hB.mono ?_
  rintro e w3 ⟨rfl, rfl⟩
  have hR3 := h2.rc
  have hy3 := hy2
  have c0 := hR3.told hi
  have f0 := hR3.free (i * 3)
  have hcap := hy.cap
  have hNl : 0 ≤ 0 := Nat.le_refl _
  have hcv := (hy3.take hNl).conv (P := Tryz.prog) 40 5 9 Tryz.underlying40 Tryz.underlying5 Tryz.underlying9
  have hcd := ((hy3.below' ((Below.refl _ _).drew)).take hNl).conv (P := Tryz.prog) 40 5 9 Tryz.underlying40 Tryz.underlying5 Tryz.underlying9
  have hsz1 : (strOfNums (m.f i).told).size = (m.f i).told.length := strOfNums_size _
  have hsz2 : (strOfNums ([] : List Int)).size = 0 := rfl
  have happ : strOfNums (m.f i).told ++ strOfNums ([] : List Int) = strOfNums (m.f i).told := by rw [str_app, List.append_nil]
  have hle2 : (([] : List Int).take 0).length ≤ 1099511627 := Nat.le_trans (List.length_take_le' _ _) (by omega)
  have hto : (m.f i).told.length ≤ 1099511627 := Nat.le_trans (hm.told i hi) hs
  have hRS := (hR3.setTold hi ((m.f i).told)).below ((Below.refl _ _).drew)
  have hcS := (Ch.setCell w3 ⟨g, i * 3, none⟩ (.string (strOfNums ((m.f i).told)))).trans (Ch.of_below ((Below.refl _ _).drew) _)
  dsimp only at hRS hcS
  clear hB hy hy2 hy3 hR3
  have hfin := (RAfter.mend h2 hcS hRS rfl).before hbq
  clear hRS h h2 hp
  generalize (m.f i) = fl at *
  obtain ⟨ft, fls, fc⟩ := fl
  dsimp only at *
  go_wp2_with fail
  go_region
  go_wp2_with fail
  go_ret
  exact ⟨by rw [HG.out]; rfl, by rw [HA.out]; exact hfin⟩

set_option maxRecDepth 20000 in
set_option maxHeartbeats 4000000 in
theorem rAppendN_on (w : World) (g : Nat) (m : PD) (k : Sl) (h : RD w g m k) (s : Nat) (hm : m.ok s) (hs : s ≤ 1099511627) (hp : m.pre) (hw : m.down = false) (i : Nat) (hi : i < 8) (hy : Rd .u8 w none 0 0 []) (hu : ¬ m.room < m.used + 0) (h0 : m.left ≠ 0) (h1 : ¬ m.left ≤ 0) :
    Calls Tryz.prog 46 #[.pointer (some ⟨g, 0, none⟩), .int .i64 i, .slice none 0 0] w fun e w' => e = .returned (.int .i64 (goneE (m.gone 0))) ∧ RAfter g k w w' (m.putAt i ([] : List Int)) := by
  have _ := hp
  have hM := rmay_any w g m k h.rc i
  rw [hw, if_neg (show ¬ (false = true) by decide), if_neg (by omega)] at hM
  have hmu : m.used ≤ 8 * 1099511627 := Nat.le_trans (used_le hm) (Nat.mul_le_mul_left 8 hs)
  have cU : ∀ dd os, Calls Tryz.prog 80 #[.pointer (some ⟨g, 0, none⟩)] (Sort.grow (redrawn w dd) os) fun e w'' => e = .returned (.int .i64 m.used) ∧ ∃ p : Regrown, w'' = Sort.grow (redrawn w p.d) p.os := fun dd os => Calls.regrown_of (rused_any _ g m k (h.rc.below (below_regrown _ _ _)) (fun j hj => by have := hm.told j hj; omega))
  have c24 := h.rc.room
  have k24 := cell_regrown c24
  have hle : ¬ ((m.room : Int)) < (m.used : Int) := by omega
  have hwr : IntKind.i64.wrap (m.used : Int) = (m.used : Int) := by rw [IntKind.wrap_i64]; omega
  have hly := hy.len
  have HA : Hid (m.putAt i ([] : List Int) = { m with left := m.left - 0, f := upP m.f i { m.f i with told := (m.f i).told } }) := by unfold Hid PD.putAt; rw [hly, act_of2 m 0 _ h0 h1]; simp
  have HG : Hid (m.gone 0 = false) := decide_eq_false (by omega)
  have hlm := hm.left
  go_enter Tryz.func46, Tryz.ntmps46
  go_wp2_with fail
  refine hM.mono ?_
  rintro e w1 ⟨rfl, rfl⟩
  go_wp2_with fail
  refine wp_region_quiet_below (by kernel_rfl) (by kernel_rfl) ?_
  repeat (with_reducible refine wpQuiet_step (fun K hK => ?_); go_simp; first | (with_reducible refine hK _ ?_; clear hK K) | (apply Exists.intro; refine ⟨fun _ => ?_, hK _ ?_⟩; ((go_at_call 80; with_reducible exact cU _ _)); clear hK K))
  with_reducible refine wpQuiet_nil ?_
  intro _ hw'
  obtain ⟨⟨dq, osq⟩, hw''⟩ := hw'
  subst hw''
  have hbq := below_regrown w1 dq osq
  have h2 := h.below hbq
  have hy2 := hy.below' hbq
  clear cU k24 c24 hM
  generalize Sort.grow (redrawn w1 dq) osq = w2 at *
  have hB := rburn_on w2 g m k h2.rc 0 (by omega) hlm
  go_wp2_with fail
  refine hB.mono ?_
  rintro e w3 ⟨rfl, hw3⟩
  have hc3 := Ch.setCell w2 ⟨g, 26, none⟩ (.int .i64 ((m.left - 0 : Nat) : Int))
  have hR3 := h2.rc.setLeft (m.left - 0)
  have hy3 := hy2.ch0 hc3 (fun x e h0 => absurd h0 (Nat.lt_irrefl _))
  rw [← hw3] at hc3 hR3 hy3
  dsimp only at hc3
  clear hw3
  have c0 := hR3.told hi
  have f0 := hR3.free (i * 3)
  have hcap := hy.cap
  have hNl : 0 ≤ 0 := Nat.le_refl _
  have hcv := (hy3.take hNl).conv (P := Tryz.prog) 40 5 9 Tryz.underlying40 Tryz.underlying5 Tryz.underlying9
  have hcd := ((hy3.below' ((Below.refl _ _).drew)).take hNl).conv (P := Tryz.prog) 40 5 9 Tryz.underlying40 Tryz.underlying5 Tryz.underlying9
  have hsz1 : (strOfNums (m.f i).told).size = (m.f i).told.length := strOfNums_size _
  have hsz2 : (strOfNums ([] : List Int)).size = 0 := rfl
  have happ : strOfNums (m.f i).told ++ strOfNums ([] : List Int) = strOfNums (m.f i).told := by rw [str_app, List.append_nil]
  have hle2 : (([] : List Int).take 0).length ≤ 1099511627 := Nat.le_trans (List.length_take_le' _ _) (by omega)
  have hto : (m.f i).told.length ≤ 1099511627 := Nat.le_trans (hm.told i hi) hs
  have hRS := (hR3.setTold hi ((m.f i).told)).below ((Below.refl _ _).drew)
  have hcS := (Ch.setCell w3 ⟨g, i * 3, none⟩ (.string (strOfNums ((m.f i).told)))).trans (Ch.of_below ((Below.refl _ _).drew) _)
  dsimp only at hRS hcS
  clear hB hy hy2 hy3 hR3
  have hfin := (RAfter.mend h2 (hc3.trans hcS) hRS rfl).before hbq
  clear hRS h h2 hp
  generalize (m.f i) = fl at *
  obtain ⟨ft, fls, fc⟩ := fl
  dsimp only at *
  go_wp2_with fail
  go_region
  go_wp2_with fail
  go_ret
  exact ⟨by rw [HG.out]; rfl, by rw [HA.out]; exact hfin⟩

set_option maxRecDepth 20000 in
set_option maxHeartbeats 4000000 in
theorem rAppendS_none (w : World) (g : Nat) (m : PD) (k : Sl) (h : RD w g m k) (s : Nat) (hm : m.ok s) (hs : s ≤ 1099511627) (hp : m.pre) (hw : m.down = false) (i : Nat) (hi : i < 8) (ad : Addr) (c : Nat) (hy : Rd .u8 w (some ad) 0 c []) (hu : ¬ m.room < m.used + 0) (h0 : m.left = 0) :
    Calls Tryz.prog 46 #[.pointer (some ⟨g, 0, none⟩), .int .i64 i, .slice (some ad) 0 c] w fun e w' => e = .returned (.int .i64 (goneE (m.gone 0))) ∧ RAfter g k w w' (m.putAt i ([] : List Int)) := by
  have _ := hp
  have hM := rmay_any w g m k h.rc i
  rw [hw, if_neg (show ¬ (false = true) by decide), if_neg (by omega)] at hM
  have hmu : m.used ≤ 8 * 1099511627 := Nat.le_trans (used_le hm) (Nat.mul_le_mul_left 8 hs)
  have cU : ∀ dd os, Calls Tryz.prog 80 #[.pointer (some ⟨g, 0, none⟩)] (Sort.grow (redrawn w dd) os) fun e w'' => e = .returned (.int .i64 m.used) ∧ ∃ p : Regrown, w'' = Sort.grow (redrawn w p.d) p.os := fun dd os => Calls.regrown_of (rused_any _ g m k (h.rc.below (below_regrown _ _ _)) (fun j hj => by have := hm.told j hj; omega))
  have c24 := h.rc.room
  have k24 := cell_regrown c24
  have hle : ¬ ((m.room : Int)) < (m.used : Int) := by omega
  have hwr : IntKind.i64.wrap (m.used : Int) = (m.used : Int) := by rw [IntKind.wrap_i64]; omega
  have hly := hy.len
  have HA : Hid (m.putAt i ([] : List Int) = { m with f := upP m.f i { m.f i with told := (m.f i).told } }) := by unfold Hid PD.putAt; rw [hly, act_of0 m 0 _ h0]; simp
  have HG : Hid (m.gone 0 = false) := decide_eq_false (by omega)
  have hlm := hm.left
  go_enter Tryz.func46, Tryz.ntmps46
  go_wp2_with fail
  refine hM.mono ?_
  rintro e w1 ⟨rfl, rfl⟩
  go_wp2_with fail
  refine wp_region_quiet_below (by kernel_rfl) (by kernel_rfl) ?_
  repeat (with_reducible refine wpQuiet_step (fun K hK => ?_); go_simp; first | (with_reducible refine hK _ ?_; clear hK K) | (apply Exists.intro; refine ⟨fun _ => ?_, hK _ ?_⟩; ((go_at_call 80; with_reducible exact cU _ _)); clear hK K))
  with_reducible refine wpQuiet_nil ?_
  intro _ hw'
  obtain ⟨⟨dq, osq⟩, hw''⟩ := hw'
  subst hw''
  have hbq := below_regrown w1 dq osq
  have h2 := h.below hbq
  have hy2 := hy.below' hbq
  clear cU k24 c24 hM
  generalize Sort.grow (redrawn w1 dq) osq = w2 at *
  have hB := rburn_none w2 g m k h2.rc h0 0
  go_wp2_with fail
  refine hB.mono ?_
  rintro e w3 ⟨rfl, rfl⟩
  have hR3 := h2.rc
  have hy3 := hy2
  have c0 := hR3.told hi
  have f0 := hR3.free (i * 3)
  have hcap := hy.cap
  have hNl : 0 ≤ 0 := Nat.le_refl _
  have hcv := (hy3.take hNl).conv (P := Tryz.prog) 40 5 9 Tryz.underlying40 Tryz.underlying5 Tryz.underlying9
  have hcd := ((hy3.below' ((Below.refl _ _).drew)).take hNl).conv (P := Tryz.prog) 40 5 9 Tryz.underlying40 Tryz.underlying5 Tryz.underlying9
  have hsz1 : (strOfNums (m.f i).told).size = (m.f i).told.length := strOfNums_size _
  have hsz2 : (strOfNums ([] : List Int)).size = 0 := rfl
  have happ : strOfNums (m.f i).told ++ strOfNums ([] : List Int) = strOfNums (m.f i).told := by rw [str_app, List.append_nil]
  have hle2 : (([] : List Int).take 0).length ≤ 1099511627 := Nat.le_trans (List.length_take_le' _ _) (by omega)
  have hto : (m.f i).told.length ≤ 1099511627 := Nat.le_trans (hm.told i hi) hs
  have hRS := (hR3.setTold hi ((m.f i).told)).below ((Below.refl _ _).drew)
  have hcS := (Ch.setCell w3 ⟨g, i * 3, none⟩ (.string (strOfNums ((m.f i).told)))).trans (Ch.of_below ((Below.refl _ _).drew) _)
  dsimp only at hRS hcS
  clear hB hy hy2 hy3 hR3
  have hfin := (RAfter.mend h2 hcS hRS rfl).before hbq
  clear hRS h h2 hp
  generalize (m.f i) = fl at *
  obtain ⟨ft, fls, fc⟩ := fl
  dsimp only at *
  go_wp2_with fail
  go_region
  go_wp2_with fail
  go_ret
  exact ⟨by rw [HG.out]; rfl, by rw [HA.out]; exact hfin⟩

set_option maxRecDepth 20000 in
set_option maxHeartbeats 4000000 in
theorem rAppendS_on (w : World) (g : Nat) (m : PD) (k : Sl) (h : RD w g m k) (s : Nat) (hm : m.ok s) (hs : s ≤ 1099511627) (hp : m.pre) (hw : m.down = false) (i : Nat) (hi : i < 8) (ad : Addr) (c : Nat) (hy : Rd .u8 w (some ad) 0 c []) (hu : ¬ m.room < m.used + 0) (h0 : m.left ≠ 0) (h1 : ¬ m.left ≤ 0) :
    Calls Tryz.prog 46 #[.pointer (some ⟨g, 0, none⟩), .int .i64 i, .slice (some ad) 0 c] w fun e w' => e = .returned (.int .i64 (goneE (m.gone 0))) ∧ RAfter g k w w' (m.putAt i ([] : List Int)) := by
  have _ := hp
  have hM := rmay_any w g m k h.rc i
  rw [hw, if_neg (show ¬ (false = true) by decide), if_neg (by omega)] at hM
  have hmu : m.used ≤ 8 * 1099511627 := Nat.le_trans (used_le hm) (Nat.mul_le_mul_left 8 hs)
  have cU : ∀ dd os, Calls Tryz.prog 80 #[.pointer (some ⟨g, 0, none⟩)] (Sort.grow (redrawn w dd) os) fun e w'' => e = .returned (.int .i64 m.used) ∧ ∃ p : Regrown, w'' = Sort.grow (redrawn w p.d) p.os := fun dd os => Calls.regrown_of (rused_any _ g m k (h.rc.below (below_regrown _ _ _)) (fun j hj => by have := hm.told j hj; omega))
  have c24 := h.rc.room
  have k24 := cell_regrown c24
  have hle : ¬ ((m.room : Int)) < (m.used : Int) := by omega
  have hwr : IntKind.i64.wrap (m.used : Int) = (m.used : Int) := by rw [IntKind.wrap_i64]; omega
  have hly := hy.len
  have HA : Hid (m.putAt i ([] : List Int) = { m with left := m.left - 0, f := upP m.f i { m.f i with told := (m.f i).told } }) := by unfold Hid PD.putAt; rw [hly, act_of2 m 0 _ h0 h1]; simp
  have HG : Hid (m.gone 0 = false) := decide_eq_false (by omega)
  have hlm := hm.left
  go_enter Tryz.func46, Tryz.ntmps46
  go_wp2_with fail
  refine hM.mono ?_
  rintro e w1 ⟨rfl, rfl⟩
  go_wp2_with fail
  refine wp_region_quiet_below (by kernel_rfl) (by kernel_rfl) ?_
  repeat (with_reducible refine wpQuiet_step (fun K hK => ?_); go_simp; first | (with_reducible refine hK _ ?_; clear hK K) | (apply Exists.intro; refine ⟨fun _ => ?_, hK _ ?_⟩; ((go_at_call 80; with_reducible exact cU _ _)); clear hK K))
  with_reducible refine wpQuiet_nil ?_
  intro _ hw'
  obtain ⟨⟨dq, osq⟩, hw''⟩ := hw'
  subst hw''
  have hbq := below_regrown w1 dq osq
  have h2 := h.below hbq
  have hy2 := hy.below' hbq
  clear cU k24 c24 hM
  generalize Sort.grow (redrawn w1 dq) osq = w2 at *
  have hB := rburn_on w2 g m k h2.rc 0 (by omega) hlm
  go_wp2_with fail
  refine hB.mono ?_
  rintro e w3 ⟨rfl, hw3⟩
  have hc3 := Ch.setCell w2 ⟨g, 26, none⟩ (.int .i64 ((m.left - 0 : Nat) : Int))
  have hR3 := h2.rc.setLeft (m.left - 0)
  have hy3 := hy2.ch0 hc3 (fun x e h0 => absurd h0 (Nat.lt_irrefl _))
  rw [← hw3] at hc3 hR3 hy3
  dsimp only at hc3
  clear hw3
  have c0 := hR3.told hi
  have f0 := hR3.free (i * 3)
  have hcap := hy.cap
  have hNl : 0 ≤ 0 := Nat.le_refl _
  have hcv := (hy3.take hNl).conv (P := Tryz.prog) 40 5 9 Tryz.underlying40 Tryz.underlying5 Tryz.underlying9
  have hcd := ((hy3.below' ((Below.refl _ _).drew)).take hNl).conv (P := Tryz.prog) 40 5 9 Tryz.underlying40 Tryz.underlying5 Tryz.underlying9
  have hsz1 : (strOfNums (m.f i).told).size = (m.f i).told.length := strOfNums_size _
  have hsz2 : (strOfNums ([] : List Int)).size = 0 := rfl
  have happ : strOfNums (m.f i).told ++ strOfNums ([] : List Int) = strOfNums (m.f i).told := by rw [str_app, List.append_nil]
  have hle2 : (([] : List Int).take 0).length ≤ 1099511627 := Nat.le_trans (List.length_take_le' _ _) (by omega)
  have hto : (m.f i).told.length ≤ 1099511627 := Nat.le_trans (hm.told i hi) hs
  have hRS := (hR3.setTold hi ((m.f i).told)).below ((Below.refl _ _).drew)
  have hcS := (Ch.setCell w3 ⟨g, i * 3, none⟩ (.string (strOfNums ((m.f i).told)))).trans (Ch.of_below ((Below.refl _ _).drew) _)
  dsimp only at hRS hcS
  clear hB hy hy2 hy3 hR3
  have hfin := (RAfter.mend h2 (hc3.trans hcS) hRS rfl).before hbq
  clear hRS h h2 hp
  generalize (m.f i) = fl at *
  obtain ⟨ft, fls, fc⟩ := fl
  dsimp only at *
  go_wp2_with fail
  go_region
  go_wp2_with fail
  go_ret
  exact ⟨by rw [HG.out]; rfl, by rw [HA.out]; exact hfin⟩

theorem rAppend_ok (w : World) (g : Nat) (m : PD) (k : Sl) (h : RD w g m k) (s : Nat) (hm : m.ok s) (hs : s ≤ 1099511627) (hp : m.pre) (hw : m.down = false) (i : Nat) (hi : i < 8) (q : Option Addr) (l c : Nat) (ys : List Int) (hy : Rd .u8 w q l c ys) (hqg : ∀ x, q = some x → 0 < l → x.block ≠ g) (hl : l ≤ 1099511627) (hu : ¬ m.room < m.used + l) :
    Calls Tryz.prog 46 #[.pointer (some ⟨g, 0, none⟩), .int .i64 i, .slice q l c] w fun e w' => e = .returned (.int .i64 (goneE (m.gone l))) ∧ RAfter g k w w' (m.putAt i ys) := by
  cases q with
  | none =>
    obtain rfl : c = 0 := hy.nil rfl
    obtain rfl : l = 0 := by have := hy.cap; omega
    obtain rfl : ys = [] := List.length_eq_zero_iff.1 hy.len
    by_cases h0 : m.left = 0
    · exact rAppendN_none w g m k h s hm hs hp hw i hi hy hu h0
    · exact rAppendN_on w g m k h s hm hs hp hw i hi hy hu h0 (by omega)
  | some a =>
    by_cases hsp : 0 < l
    · obtain ⟨qb, qo, e, _⟩ := hy.cells hsp
      cases e
      by_cases h0 : m.left = 0
      · exact rAppend_none w g m k h s hm hs hp hw i hi qb qo l c ys hy (fun h => hqg _ rfl h) hl hu h0
      · by_cases h1 : m.left ≤ l
        · exact rAppend_out w g m k h s hm hs hp hw i hi qb qo l c ys hy (fun h => hqg _ rfl h) hl hu h0 h1
        · exact rAppend_on w g m k h s hm hs hp hw i hi qb qo l c ys hy (fun h => hqg _ rfl h) hl hu h0 h1
    · obtain rfl : l = 0 := by omega
      obtain rfl : ys = [] := List.length_eq_zero_iff.1 hy.len
      by_cases h0 : m.left = 0
      · exact rAppendS_none w g m k h s hm hs hp hw i hi a c hy hu h0
      · exact rAppendS_on w g m k h s hm hs hp hw i hi a c hy hu h0 (by omega)

end Go.Proofs.YtpjhadaiodnnaaaGreat.M
end
