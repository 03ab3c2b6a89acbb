/-
  Own text: the reference's disk: its cells; contracts of New, may, burn, Used.
-/
import Derived.Test.YtcgpdaalehgjdaaDAlike
namespace Go.Proofs.Ytcgpdaalehgjdaa.M
open Go.ChangeShapes Go.WideShapes Go.ChangeAt Go.RowKit

def rfile (f : PF) (r : Nat) : Value := if r = 0 then .string (strOfNums f.told) else if r = 1 then .string (strOfNums f.lasts) else .bool f.cl

/-- The cells of the reference's disk m, with a slice k of what is to be kept. -/
def rcell (m : PD) (k : Sl) (j : Nat) : Value := if j = 24 then .int .i64 m.room else if j = 25 then .bool m.down else if j = 26 then .int .i64 m.left else if j = 27 then .slice k.p k.n k.c else rfile (m.f (j / 3)) (j % 3)

/-- The reference's disk m lies in block g. -/
structure RC (w : World) (g : Nat) (m : PD) (k : Sl) : Prop where
  cells : ∀ j, j < 28 → w.cell? ⟨g, j, none⟩ = some (rcell m k j)
  free : ∀ j, w.frozen? ⟨g, j, none⟩ = false

theorem rcell_file (m : PD) (k : Sl) {i r : Nat} (hi : i < 8) (hr : r < 3) : rcell m k (i * 3 + r) = rfile (m.f i) r := by
  unfold rcell
  rw [if_neg (by omega), if_neg (by omega), if_neg (by omega), if_neg (by omega)]
  have h1 : (i * 3 + r) / 3 = i := by omega
  have h2 : (i * 3 + r) % 3 = r := by omega
  rw [h1, h2]

theorem RC.lt {w : World} {g : Nat} {m : PD} {k : Sl} (h : RC w g m k) : g < w.heap.size := World.block_lt_of_cell? _ _ (h.cells 0 (by decide))
theorem RC.room {w : World} {g : Nat} {m : PD} {k : Sl} (h : RC w g m k) : w.cell? ⟨g, 24, none⟩ = some (.int .i64 m.room) := h.cells 24 (by decide)
theorem RC.down {w : World} {g : Nat} {m : PD} {k : Sl} (h : RC w g m k) : w.cell? ⟨g, 25, none⟩ = some (.bool m.down) := h.cells 25 (by decide)
theorem RC.left {w : World} {g : Nat} {m : PD} {k : Sl} (h : RC w g m k) : w.cell? ⟨g, 26, none⟩ = some (.int .i64 m.left) := h.cells 26 (by decide)
theorem RC.keep {w : World} {g : Nat} {m : PD} {k : Sl} (h : RC w g m k) : w.cell? ⟨g, 27, none⟩ = some (.slice k.p k.n k.c) := h.cells 27 (by decide)
theorem RC.told {w : World} {g : Nat} {m : PD} {k : Sl} (h : RC w g m k) {i : Nat} (hi : i < 8) : w.cell? ⟨g, i * 3, none⟩ = some (.string (strOfNums (m.f i).told)) := by
  have := h.cells (i * 3 + 0) (by omega)
  rw [rcell_file m k hi (by decide)] at this
  exact this
theorem RC.lasts {w : World} {g : Nat} {m : PD} {k : Sl} (h : RC w g m k) {i : Nat} (hi : i < 8) : w.cell? ⟨g, i * 3 + 1, none⟩ = some (.string (strOfNums (m.f i).lasts)) := by
  have := h.cells (i * 3 + 1) (by omega)
  rw [rcell_file m k hi (by decide)] at this
  exact this
theorem RC.cl {w : World} {g : Nat} {m : PD} {k : Sl} (h : RC w g m k) {i : Nat} (hi : i < 8) : w.cell? ⟨g, i * 3 + 2, none⟩ = some (.bool (m.f i).cl) := by
  have := h.cells (i * 3 + 2) (by omega)
  rw [rcell_file m k hi (by decide)] at this
  exact this

theorem RC.ch {S : Nat → Prop} {w w' : World} {g : Nat} {m : PD} {k : Sl} (h : RC w g m k) (hc : Ch S w w') (hg : ¬ S g) : RC w' g m k :=
  ⟨fun j hj => by rw [hc.cell (p := ⟨g, j, none⟩) h.lt hg]; exact h.cells j hj, fun j => by rw [hc.frozen (p := ⟨g, j, none⟩) h.lt hg]; exact h.free j⟩

theorem RC.below {w w' : World} {g : Nat} {m : PD} {k : Sl} (h : RC w g m k) (hb : Below w.heap.size w w') : RC w' g m k := h.ch (Ch.of_below hb (fun _ => False)) (fun e => e)

/-- A cell of it set. -/
theorem RC.set {w : World} {g : Nat} {m m' : PD} {k k' : Sl} (h : RC w g m k) (j0 : Nat) (hj0 : j0 < 28) (v : Value) (hv : rcell m' k' j0 = v) (hne : ∀ j, j < 28 → j ≠ j0 → rcell m' k' j = rcell m k j) : RC (w.setCell ⟨g, j0, none⟩ v) g m' k' := by
  refine ⟨fun j hj => ?_, fun j => by rw [World.frozen?_setCell]; exact h.free j⟩
  by_cases e : j = j0
  · subst e
    rw [hv]
    exact World.cell?_setCell_same _ _ _ (h.cells j hj)
  · rw [World.cell?_setCell_other (h := fun e2 => e (congrArg Addr.off e2).symm), hne j hj e]
    exact h.cells j hj

theorem RC.setDown {w : World} {g : Nat} {m : PD} {k : Sl} (h : RC w g m k) (b : Bool) : RC (w.setCell ⟨g, 25, none⟩ (.bool b)) g { m with down := b } k := by
  refine h.set 25 (by decide) _ rfl fun j _ hj => ?_
  unfold rcell
  by_cases h0 : j = 24
  · rw [if_pos h0, if_pos h0]
  · rw [if_neg h0, if_neg h0, if_neg hj, if_neg hj]

theorem RC.setLeft {w : World} {g : Nat} {m : PD} {k : Sl} (h : RC w g m k) (n : Nat) : RC (w.setCell ⟨g, 26, none⟩ (.int .i64 n)) g { m with left := n } k := by
  refine h.set 26 (by decide) _ rfl fun j _ hj => ?_
  unfold rcell
  by_cases h0 : j = 24
  · rw [if_pos h0, if_pos h0]
  · rw [if_neg h0, if_neg h0]
    by_cases h1 : j = 25
    · rw [if_pos h1, if_pos h1]
    · rw [if_neg h1, if_neg h1, if_neg hj, if_neg hj]

theorem RC.setKeep {w : World} {g : Nat} {m : PD} {k : Sl} (h : RC w g m k) (p : Option Addr) (n c : Nat) (ks : List Int) : RC (w.setCell ⟨g, 27, none⟩ (.slice p n c)) g { m with keep := ks } ⟨p, n, c⟩ := by
  refine h.set 27 (by decide) _ rfl fun j _ hj => ?_
  unfold rcell
  by_cases h0 : j = 24
  · rw [if_pos h0, if_pos h0]
  · rw [if_neg h0, if_neg h0]
    by_cases h1 : j = 25
    · rw [if_pos h1, if_pos h1]
    · rw [if_neg h1, if_neg h1]
      by_cases h2 : j = 26
      · rw [if_pos h2, if_pos h2]
      · rw [if_neg h2, if_neg h2, if_neg hj, if_neg hj]

theorem RC.setFile {w : World} {g : Nat} {m : PD} {k : Sl} (h : RC w g m k) {i r : Nat} (hi : i < 8) (hr : r < 3) (f : PF) (v : Value) (hv : rfile f r = v) (hne : ∀ q, q < 3 → q ≠ r → rfile f q = rfile (m.f i) q) :
    RC (w.setCell ⟨g, i * 3 + r, none⟩ v) g { m with f := upP m.f i f } k := by
  refine h.set (i * 3 + r) (by omega) _ ?_ fun j hj hjk => ?_
  · rw [rcell_file _ k hi hr]
    show rfile (upP m.f i f i) r = v
    rw [upP_same]
    exact hv
  · unfold rcell
    by_cases h0 : j = 24
    · rw [if_pos h0, if_pos h0]
    · rw [if_neg h0, if_neg h0]
      by_cases h1 : j = 25
      · rw [if_pos h1, if_pos h1]
      · rw [if_neg h1, if_neg h1]
        by_cases h2 : j = 26
        · rw [if_pos h2, if_pos h2]
        · rw [if_neg h2, if_neg h2]
          by_cases h3 : j = 27
          · rw [if_pos h3, if_pos h3]
          · rw [if_neg h3, if_neg h3]
            show rfile (upP m.f i f (j / 3)) (j % 3) = _
            by_cases hji : j / 3 = i
            · rw [hji, upP_same]
              exact hne _ (Nat.mod_lt _ (by decide)) (by omega)
            · rw [upP_other _ _ hji]

theorem RC.setTold {w : World} {g : Nat} {m : PD} {k : Sl} (h : RC w g m k) {i : Nat} (hi : i < 8) (t : List Int) : RC (w.setCell ⟨g, i * 3, none⟩ (.string (strOfNums t))) g { m with f := upP m.f i { m.f i with told := t } } k :=
  h.setFile (r := 0) hi (by decide) _ _ rfl fun q _ hq0 => by unfold rfile; rw [if_neg hq0, if_neg hq0]
theorem RC.setLasts {w : World} {g : Nat} {m : PD} {k : Sl} (h : RC w g m k) {i : Nat} (hi : i < 8) (t : List Int) : RC (w.setCell ⟨g, i * 3 + 1, none⟩ (.string (strOfNums t))) g { m with f := upP m.f i { m.f i with lasts := t } } k :=
  h.setFile (r := 1) hi (by decide) _ _ rfl fun q _ hq0 => by unfold rfile; rw [if_neg hq0, if_neg hq0]
theorem RC.setCl {w : World} {g : Nat} {m : PD} {k : Sl} (h : RC w g m k) {i : Nat} (hi : i < 8) (b : Bool) : RC (w.setCell ⟨g, i * 3 + 2, none⟩ (.bool b)) g { m with f := upP m.f i { m.f i with cl := b } } k :=
  h.setFile (r := 2) hi (by decide) _ _ rfl fun q hq hq2 => by
    match q, hq, hq2 with
    | 0, _, _ => rfl
    | 1, _, _ => rfl
    | 2, _, h => exact absurd rfl h

theorem upP_up (f : Nat → PF) (i : Nat) (x y : PF) : upP (upP f i x) i y = upP f i y := by
  funext k
  unfold upP
  by_cases e : k = i
  · rw [if_pos e, if_pos e]
  · rw [if_neg e, if_neg e, if_neg e]

/-- All files' cells. -/
def rc24 (f : Nat → PF) : List Value := [.string (strOfNums (f 0).told), .string (strOfNums (f 0).lasts), .bool (f 0).cl, .string (strOfNums (f 1).told), .string (strOfNums (f 1).lasts), .bool (f 1).cl, .string (strOfNums (f 2).told), .string (strOfNums (f 2).lasts), .bool (f 2).cl, .string (strOfNums (f 3).told), .string (strOfNums (f 3).lasts), .bool (f 3).cl, .string (strOfNums (f 4).told), .string (strOfNums (f 4).lasts), .bool (f 4).cl, .string (strOfNums (f 5).told), .string (strOfNums (f 5).lasts), .bool (f 5).cl, .string (strOfNums (f 6).told), .string (strOfNums (f 6).lasts), .bool (f 6).cl, .string (strOfNums (f 7).told), .string (strOfNums (f 7).lasts), .bool (f 7).cl]

theorem RC.range {w : World} {g : Nat} {m : PD} {k : Sl} (h : RC w g m k) : w.rangeAt g 0 (rc24 m.f) := fun j v hv => by
  rw [Nat.zero_add]
  match j, hv with
  | 0, hv => cases hv; exact h.told (i := 0) (by decide)
  | 1, hv => cases hv; exact h.lasts (i := 0) (by decide)
  | 2, hv => cases hv; exact h.cl (i := 0) (by decide)
  | 3, hv => cases hv; exact h.told (i := 1) (by decide)
  | 4, hv => cases hv; exact h.lasts (i := 1) (by decide)
  | 5, hv => cases hv; exact h.cl (i := 1) (by decide)
  | 6, hv => cases hv; exact h.told (i := 2) (by decide)
  | 7, hv => cases hv; exact h.lasts (i := 2) (by decide)
  | 8, hv => cases hv; exact h.cl (i := 2) (by decide)
  | 9, hv => cases hv; exact h.told (i := 3) (by decide)
  | 10, hv => cases hv; exact h.lasts (i := 3) (by decide)
  | 11, hv => cases hv; exact h.cl (i := 3) (by decide)
  | 12, hv => cases hv; exact h.told (i := 4) (by decide)
  | 13, hv => cases hv; exact h.lasts (i := 4) (by decide)
  | 14, hv => cases hv; exact h.cl (i := 4) (by decide)
  | 15, hv => cases hv; exact h.told (i := 5) (by decide)
  | 16, hv => cases hv; exact h.lasts (i := 5) (by decide)
  | 17, hv => cases hv; exact h.cl (i := 5) (by decide)
  | 18, hv => cases hv; exact h.told (i := 6) (by decide)
  | 19, hv => cases hv; exact h.lasts (i := 6) (by decide)
  | 20, hv => cases hv; exact h.cl (i := 6) (by decide)
  | 21, hv => cases hv; exact h.told (i := 7) (by decide)
  | 22, hv => cases hv; exact h.lasts (i := 7) (by decide)
  | 23, hv => cases hv; exact h.cl (i := 7) (by decide)
  | k + 24, hv => simp [rc24] at hv

theorem size24 : (Try.prog.info? 71).map (·.size) = some 24 := by kernel_rfl

theorem index24 (f : Nat → PF) {I : Nat} (hI : I < 8) (W : World) : (Instr.index 71 (.agg (rc24 f).toArray) (.int .i64 (I : Int))).run Try.prog W = .ok (.agg #[.string (strOfNums (f I).told), .string (strOfNums (f I).lasts), .bool (f I).cl]) W := by
  match I, hI with
  | 0, _ => go_simp; rfl
  | 1, _ => go_simp; rfl
  | 2, _ => go_simp; rfl
  | 3, _ => go_simp; rfl
  | 4, _ => go_simp; rfl
  | 5, _ => go_simp; rfl
  | 6, _ => go_simp; rfl
  | 7, _ => go_simp; rfl
  | k + 8, h => exact absurd h (by omega)

set_option maxRecDepth 20000 in
theorem rmay_any (w : World) (g : Nat) (m : PD) (k : Sl) (h : RC w g m k) (i : Int) :
    Calls Try.prog 42 #[.pointer (some ⟨g, 0, none⟩), .int .i64 i] w fun e w' => e = .returned (.int .i64 (if m.down then 50 else if i < 0 ∨ 8 ≤ i then 51 else 0)) ∧ w' = w := by
  have h1 := h.down
  clear h
  cases hd : m.down with
  | true =>
    rw [hd] at h1
    clear hd
    go_enter Try.func42, Try.ntmps42
    go_wp2_with fail
    go_ret
    exact ⟨rfl, rfl⟩
  | false =>
    rw [hd] at h1
    clear hd
    by_cases hi : i < 0
    · rw [if_pos (Or.inl hi)]
      go_enter Try.func42, Try.ntmps42
      go_wp2_with fail
      go_ret
      exact ⟨rfl, rfl⟩
    · by_cases hj : 8 ≤ i
      · rw [if_pos (Or.inr hj)]
        have h7 : (7 : Int) < i := by omega
        go_enter Try.func42, Try.ntmps42
        go_wp2_with fail
        go_ret
        exact ⟨rfl, rfl⟩
      · rw [if_neg (show ¬ (false = true) by decide), if_neg (by omega)]
        have h7 : ¬ (7 : Int) < i := by omega
        go_enter Try.func42, Try.ntmps42
        go_wp2_with fail
        go_ret
        exact ⟨rfl, rfl⟩

set_option maxRecDepth 20000 in
theorem rburn_none (w : World) (g : Nat) (m : PD) (k : Sl) (h : RC w g m k) (hl : m.left = 0) (n : Nat) :
    Calls Try.prog 54 #[.pointer (some ⟨g, 0, none⟩), .int .i64 n] w fun e w' => e = .returned (.tuple #[.int .i64 n, .bool false]) ∧ w' = w := by
  have hc := h.left
  rw [hl] at hc
  clear h
  go_enter Try.func54, Try.ntmps54
  go_wp2_with fail
  go_ret2
  exact ⟨rfl, rfl⟩

set_option maxRecDepth 20000 in
theorem rburn_out (w : World) (g : Nat) (m : PD) (k : Sl) (h : RC w g m k) (hl : 0 < m.left) (n : Nat) (hn : m.left ≤ n) :
    Calls Try.prog 54 #[.pointer (some ⟨g, 0, none⟩), .int .i64 n] w fun e w' => e = .returned (.tuple #[.int .i64 m.left, .bool true]) ∧ w' = w := by
  have hc := h.left
  generalize m.left = l at *
  clear h
  go_enter Try.func54, Try.ntmps54
  go_wp2_with fail
  go_ret2
  exact ⟨rfl, rfl⟩

set_option maxRecDepth 20000 in
theorem rburn_on (w : World) (g : Nat) (m : PD) (k : Sl) (h : RC w g m k) (n : Nat) (hn : n < m.left) (hm : m.left ≤ 9223372036854775807) :
    Calls Try.prog 54 #[.pointer (some ⟨g, 0, none⟩), .int .i64 n] w fun e w' => e = .returned (.tuple #[.int .i64 n, .bool false]) ∧ w' = w.setCell ⟨g, 26, none⟩ (.int .i64 (m.left - n : Nat)) := by
  have hc := h.left
  have hf := h.free 26
  generalize m.left = l at *
  have e : (l : Int) - (n : Int) = ((l - n : Nat) : Int) := by omega
  clear h
  go_enter Try.func54, Try.ntmps54
  go_wp2_with fail
  go_ret2
  exact ⟨rfl, rfl⟩

/-- How many bytes the first k files have. -/
def usedP (f : Nat → PF) : Nat → Nat
  | 0 => 0
  | k + 1 => usedP f k + (f k).told.length

theorem usedP_eq (m : PD) : usedP m.f 8 = m.used := by
  unfold PD.used
  simp [usedP]

theorem usedP_le (f : Nat → PF) (s : Nat) (h : ∀ i, i < 8 → (f i).told.length ≤ s) : ∀ k, k ≤ 8 → usedP f k ≤ k * s
  | 0, _ => Nat.zero_le _
  | k + 1, hk => by
    have h1 := usedP_le f s h k (by omega)
    have h2 := h k (by omega)
    show usedP f k + (f k).told.length ≤ _
    rw [Nat.succ_mul]
    omega

set_option maxRecDepth 20000 in
theorem rused_any (w : World) (g : Nat) (m : PD) (k : Sl) (h : RC w g m k) (hs : ∀ i, i < 8 → (m.f i).told.length ≤ 549755813888) :
    Calls Try.prog 18 #[.pointer (some ⟨g, 0, none⟩)] w fun e w' => e = .returned (.int .i64 m.used) ∧ Below w.heap.size w w' := by
  have hR := h.range
  have hc0 := h.told (i := 0) (by decide)
  have HU : Hid (usedP m.f 8 = m.used) := usedP_eq m
  go_enter Try.func18, Try.ntmps18
  go_wp2_with (refine wpList_load_mid rfl 71 (.tmp 8) rfl g 0 rfl (rc24 m.f) _ hR Try.underlying71 rfl size24 ?_)
  go_loopw [3, 10] (fun s i wr => ∃ k : Nat, k ≤ 8 ∧ i = .int .i64 k ∧ s = .int .i64 (usedP m.f k) ∧ Below w.heap.size w wr) (fun _ i _ => 8 - (intOf i).toNat)
  case atStart => exact ⟨0, Nat.zero_le _, rfl, rfl, Below.refl _ _⟩
  case round =>
    obtain ⟨k, hk, rfl, rfl, hb⟩ := hrel
    by_cases h8 : k < 8
    · have hki : (k : Int) < 8 := by omega
      have hix := fun W => index24 m.f h8 W
      have hle := usedP_le m.f _ hs k hk
      have hl := hs k h8
      have HS : Hid (usedP m.f (k + 1) = usedP m.f k + (m.f k).told.length) := rfl
      have hsz : (strOfNums (m.f k).told).size = (m.f k).told.length := strOfNums_size _
      clear h hR hc0 hs
      generalize usedP m.f k = u at *
      generalize (m.f k).told.length = L at *
      have hbA : Below w.heap.size w (wr.alloc (.cells #[.string (strOfNums (m.f k).told), .string (strOfNums (m.f k).lasts), .bool (m.f k).cl] 70)) := hb.alloc hb.size _
      go_wp2_with fail
      go_roundw
      case rel => exact ⟨k + 1, by omega, by go_num, by rw [HS.out]; go_num, hbA⟩
      case measure => simp [intOf]; omega
    · obtain rfl : k = 8 := by omega
      clear h hR hc0 hs
      go_wp2_with fail
      go_ret
      exact ⟨by rw [← HU.out]; rfl, hb⟩

set_option linter.unusedSimpArgs false in
set_option maxRecDepth 20000 in
theorem rnew_any (w : World) (r : Nat) (h1 : 1 ≤ r) (h2 : r ≤ 4194304) :
    Calls Try.prog 10 #[.int .i64 r] w fun e w' => e = .returned (.tuple #[.pointer (some ⟨w.heap.size, 0, none⟩), .int .i64 0]) ∧ RC w' w.heap.size (pd0 r) ⟨none, 0, 0⟩ ∧ Below w.heap.size w w' := by
  go_enter Try.func10, Try.ntmps10
  go_wp2_with fail
  go_ret2
  refine ⟨rfl, ⟨fun j hj => ?_, fun j => World.frozen?_alloc_at _ _ _ _ rfl⟩, (Below.refl _ _).alloc (Nat.le_refl _) _⟩
  match j, hj with
  | 0, _ => simp [rcell, rfile, pd0, strOfNums]
  | 1, _ => simp [rcell, rfile, pd0, strOfNums]
  | 2, _ => simp [rcell, rfile, pd0, strOfNums]
  | 3, _ => simp [rcell, rfile, pd0, strOfNums]
  | 4, _ => simp [rcell, rfile, pd0, strOfNums]
  | 5, _ => simp [rcell, rfile, pd0, strOfNums]
  | 6, _ => simp [rcell, rfile, pd0, strOfNums]
  | 7, _ => simp [rcell, rfile, pd0, strOfNums]
  | 8, _ => simp [rcell, rfile, pd0, strOfNums]
  | 9, _ => simp [rcell, rfile, pd0, strOfNums]
  | 10, _ => simp [rcell, rfile, pd0, strOfNums]
  | 11, _ => simp [rcell, rfile, pd0, strOfNums]
  | 12, _ => simp [rcell, rfile, pd0, strOfNums]
  | 13, _ => simp [rcell, rfile, pd0, strOfNums]
  | 14, _ => simp [rcell, rfile, pd0, strOfNums]
  | 15, _ => simp [rcell, rfile, pd0, strOfNums]
  | 16, _ => simp [rcell, rfile, pd0, strOfNums]
  | 17, _ => simp [rcell, rfile, pd0, strOfNums]
  | 18, _ => simp [rcell, rfile, pd0, strOfNums]
  | 19, _ => simp [rcell, rfile, pd0, strOfNums]
  | 20, _ => simp [rcell, rfile, pd0, strOfNums]
  | 21, _ => simp [rcell, rfile, pd0, strOfNums]
  | 22, _ => simp [rcell, rfile, pd0, strOfNums]
  | 23, _ => simp [rcell, rfile, pd0, strOfNums]
  | 24, _ => simp [rcell, rfile, pd0, strOfNums]
  | 25, _ => simp [rcell, rfile, pd0, strOfNums]
  | 26, _ => simp [rcell, rfile, pd0, strOfNums]
  | 27, _ => simp [rcell, rfile, pd0, strOfNums]
  | k + 28, h => exact absurd h (by omega)

set_option maxRecDepth 20000 in
theorem rnew_bad (w : World) (r : Int) (h : r < 1 ∨ 4194304 < r) :
    Calls Try.prog 10 #[.int .i64 r] w fun e w' => e = .returned (.tuple #[.pointer none, .int .i64 1]) ∧ w' = w := by
  rcases h with h | h
  · go_enter Try.func10, Try.ntmps10
    go_wp2_with fail
    go_ret2
    exact ⟨rfl, rfl⟩
  · have h1 : ¬ r < 1 := by omega
    go_enter Try.func10, Try.ntmps10
    go_wp2_with fail
    go_ret2
    exact ⟨rfl, rfl⟩

set_option maxRecDepth 20000 in
theorem new_bad (w : World) (r : Int) (h : r < 1 ∨ 4194304 < r) :
    Calls Try.prog 9 #[.int .i64 r] w fun e w' => e = .returned (.tuple #[.pointer none, .int .i64 1]) ∧ w' = w := by
  rcases h with h | h
  · go_enter Try.func9, Try.ntmps9
    go_wp2_with fail
    go_ret2
    exact ⟨rfl, rfl⟩
  · have h1 : ¬ r < 1 := by omega
    go_enter Try.func9, Try.ntmps9
    go_wp2_with fail
    go_ret2
    exact ⟨rfl, rfl⟩

end Go.Proofs.Ytcgpdaalehgjdaa.M
