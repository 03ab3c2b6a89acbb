/-
  Own text: a disk's cells; contracts of the program's made, ready, file, Used, burn, Start, New.
-/
import Derived.Test.YtpjhadaiodnnaaaRows
import Derived.Test.YtpjhadaiodnnaaaMem
import Derived.Test.YtpjhadaiodnnaaaPure
import Derived.Deep.QuietTactic
import Derived.BigQuiet
import Derived.WalkSmall
import Derived.WalkSpells
namespace Go.Proofs.Ytpjhadaiodnnaaa.M
open Go.ChangeShapes Go.WideShapes Go.ChangeAt Go.RowKit

/-- A file's cells: what is told, what lasts, and whether it was cleared. -/
structure Fl where
  tp : Option Addr
  tn : Nat
  tc : Nat
  lp : Option Addr
  ln : Nat
  lc : Nat
  cl : Bool

/-- A disk's cells. -/
structure Dk where
  room : Nat
  down : Bool
  fl : Nat → Fl
  left : Nat
  kp : Option Addr
  kn : Nat
  kc : Nat

def fcell (f : Fl) (r : Nat) : Value := if r = 0 then .slice f.tp f.tn f.tc else if r = 1 then .slice f.lp f.ln f.lc else .bool f.cl

def dcell (d : Dk) (j : Nat) : Value := if j = 0 then .int .i64 d.room else if j = 1 then .bool d.down else if j = 26 then .int .i64 d.left else if j = 27 then .slice d.kp d.kn d.kc else fcell (d.fl ((j - 2) / 3)) ((j - 2) % 3)

/-- A disk's cells lie in block g, and may be written. -/
structure DC (w : World) (g : Nat) (d : Dk) : Prop where
  cells : ∀ j, j < 28 → w.cell? ⟨g, j, none⟩ = some (dcell d j)
  free : ∀ j, w.frozen? ⟨g, j, none⟩ = false

theorem DC.lt {w : World} {g : Nat} {d : Dk} (h : DC w g d) : g < w.heap.size := World.block_lt_of_cell? _ _ (h.cells 0 (by decide))

theorem DC.room {w : World} {g : Nat} {d : Dk} (h : DC w g d) : w.cell? ⟨g, 0, none⟩ = some (.int .i64 d.room) := h.cells 0 (by decide)
theorem DC.down {w : World} {g : Nat} {d : Dk} (h : DC w g d) : w.cell? ⟨g, 1, none⟩ = some (.bool d.down) := h.cells 1 (by decide)
theorem DC.left {w : World} {g : Nat} {d : Dk} (h : DC w g d) : w.cell? ⟨g, 26, none⟩ = some (.int .i64 d.left) := h.cells 26 (by decide)
theorem DC.keep {w : World} {g : Nat} {d : Dk} (h : DC w g d) : w.cell? ⟨g, 27, none⟩ = some (.slice d.kp d.kn d.kc) := h.cells 27 (by decide)

theorem dcell_file (d : Dk) {i r : Nat} (hi : i < 8) (hr : r < 3) : dcell d (2 + i * 3 + r) = fcell (d.fl i) r := by
  unfold dcell
  rw [if_neg (by omega), if_neg (by omega), if_neg (by omega), if_neg (by omega), show (2 + i * 3 + r - 2) / 3 = i by omega, show (2 + i * 3 + r - 2) % 3 = r by omega]

theorem DC.told {w : World} {g : Nat} {d : Dk} (h : DC w g d) {i : Nat} (hi : i < 8) : w.cell? ⟨g, 2 + i * 3, none⟩ = some (.slice (d.fl i).tp (d.fl i).tn (d.fl i).tc) := by
  have := h.cells (2 + i * 3 + 0) (by omega)
  rw [dcell_file d hi (by decide)] at this
  exact this
theorem DC.lasts {w : World} {g : Nat} {d : Dk} (h : DC w g d) {i : Nat} (hi : i < 8) : w.cell? ⟨g, 2 + i * 3 + 1, none⟩ = some (.slice (d.fl i).lp (d.fl i).ln (d.fl i).lc) := by
  rw [h.cells (2 + i * 3 + 1) (by omega), dcell_file d hi (by decide)]; rfl
theorem DC.cl {w : World} {g : Nat} {d : Dk} (h : DC w g d) {i : Nat} (hi : i < 8) : w.cell? ⟨g, 2 + i * 3 + 2, none⟩ = some (.bool (d.fl i).cl) := by
  rw [h.cells (2 + i * 3 + 2) (by omega), dcell_file d hi (by decide)]; rfl

theorem DC.below {w w' : World} {g B : Nat} {d : Dk} (h : DC w g d) (hb : Below B w w') (hg : g < B) : DC w' g d :=
  ⟨fun j hj => by rw [hb.cell (p := ⟨g, j, none⟩) hg]; exact h.cells j hj, fun j => by rw [hb.frozen (p := ⟨g, j, none⟩) hg]; exact h.free j⟩

/-- A cell of it set. -/
theorem DC.set {w : World} {g : Nat} {d d' : Dk} (h : DC w g d) (k : Nat) (hk : k < 28) (v : Value) (hv : dcell d' k = v) (hne : ∀ j, j < 28 → j ≠ k → dcell d' j = dcell d j) : DC (w.setCell ⟨g, k, none⟩ v) g d' := by
  refine ⟨fun j hj => ?_, fun j => by rw [World.frozen?_setCell]; exact h.free j⟩
  by_cases e : j = k
  · subst e
    rw [hv]
    exact World.cell?_setCell_same _ _ _ (h.cells j hj)
  · rw [World.cell?_setCell_other (h := fun e2 => e (congrArg Addr.off e2).symm), hne j hj e]
    exact h.cells j hj

theorem DC.setDown {w : World} {g : Nat} {d : Dk} (h : DC w g d) (b : Bool) : DC (w.setCell ⟨g, 1, none⟩ (.bool b)) g { d with down := b } := by
  refine h.set 1 (by decide) _ rfl fun j _ hj => ?_
  unfold dcell
  by_cases h0 : j = 0
  · rw [if_pos h0, if_pos h0]
  · rw [if_neg h0, if_neg h0, if_neg hj, if_neg hj]

theorem DC.setLeft {w : World} {g : Nat} {d : Dk} (h : DC w g d) (n : Nat) : DC (w.setCell ⟨g, 26, none⟩ (.int .i64 n)) g { d with left := n } := by
  refine h.set 26 (by decide) _ rfl fun j _ hj => ?_
  unfold dcell
  by_cases h0 : j = 0
  · rw [if_pos h0, if_pos h0]
  · rw [if_neg h0, if_neg h0]
    by_cases h1 : j = 1
    · rw [if_pos h1, if_pos h1]
    · rw [if_neg h1, if_neg h1, if_neg hj, if_neg hj]

theorem DC.setKeep {w : World} {g : Nat} {d : Dk} (h : DC w g d) (p : Option Addr) (n c : Nat) : DC (w.setCell ⟨g, 27, none⟩ (.slice p n c)) g { d with kp := p, kn := n, kc := c } := by
  refine h.set 27 (by decide) _ rfl fun j _ hj => ?_
  unfold dcell
  by_cases h0 : j = 0
  · rw [if_pos h0, if_pos h0]
  · rw [if_neg h0, if_neg h0]
    by_cases h1 : j = 1
    · rw [if_pos h1, if_pos h1]
    · rw [if_neg h1, if_neg h1]
      by_cases h2 : j = 26
      · rw [if_pos h2, if_pos h2]
      · rw [if_neg h2, if_neg h2, if_neg hj, if_neg hj]

/-- One file of it another. -/
def upF (fl : Nat → Fl) (i : Nat) (f : Fl) : Nat → Fl := fun k => if k = i then f else fl k

theorem upF_same (fl : Nat → Fl) (i : Nat) (f : Fl) : upF fl i f i = f := if_pos rfl
theorem upF_other (fl : Nat → Fl) {i k : Nat} (f : Fl) (h : k ≠ i) : upF fl i f k = fl k := if_neg h

theorem DC.setFile {w : World} {g : Nat} {d : Dk} (h : DC w g d) {i r : Nat} (hi : i < 8) (hr : r < 3) (f : Fl) (v : Value) (hv : fcell f r = v) (hne : ∀ q, q < 3 → q ≠ r → fcell f q = fcell (d.fl i) q) :
    DC (w.setCell ⟨g, 2 + i * 3 + r, none⟩ v) g { d with fl := upF d.fl i f } := by
  refine h.set (2 + i * 3 + r) (by omega) _ ?_ fun j hj hjk => ?_
  · rw [dcell_file _ hi hr]
    show fcell (upF d.fl i f i) r = v
    rw [upF_same]
    exact hv
  · unfold dcell
    by_cases h0 : j = 0
    · rw [if_pos h0, if_pos h0]
    · rw [if_neg h0, if_neg h0]
      by_cases h1 : j = 1
      · rw [if_pos h1, if_pos h1]
      · rw [if_neg h1, if_neg h1]
        by_cases h2 : j = 26
        · rw [if_pos h2, if_pos h2]
        · rw [if_neg h2, if_neg h2]
          by_cases h3 : j = 27
          · rw [if_pos h3, if_pos h3]
          · rw [if_neg h3, if_neg h3]
            show fcell (upF d.fl i f ((j - 2) / 3)) ((j - 2) % 3) = _
            by_cases hji : (j - 2) / 3 = i
            · rw [hji, upF_same]
              exact hne _ (Nat.mod_lt _ (by decide)) (by omega)
            · rw [upF_other _ _ hji]

theorem DC.setTold {w : World} {g : Nat} {d : Dk} (h : DC w g d) {i : Nat} (hi : i < 8) (p : Option Addr) (n c : Nat) : DC (w.setCell ⟨g, 2 + i * 3, none⟩ (.slice p n c)) g { d with fl := upF d.fl i { d.fl i with tp := p, tn := n, tc := c } } :=
  h.setFile (r := 0) hi (by decide) _ _ rfl fun q _ hq0 => by unfold fcell; rw [if_neg hq0, if_neg hq0]
theorem DC.setLasts {w : World} {g : Nat} {d : Dk} (h : DC w g d) {i : Nat} (hi : i < 8) (p : Option Addr) (n c : Nat) : DC (w.setCell ⟨g, 2 + i * 3 + 1, none⟩ (.slice p n c)) g { d with fl := upF d.fl i { d.fl i with lp := p, ln := n, lc := c } } :=
  h.setFile (r := 1) hi (by decide) _ _ rfl fun q _ hq0 => by unfold fcell; rw [if_neg hq0, if_neg hq0]
theorem DC.setCl {w : World} {g : Nat} {d : Dk} (h : DC w g d) {i : Nat} (hi : i < 8) (b : Bool) : DC (w.setCell ⟨g, 2 + i * 3 + 2, none⟩ (.bool b)) g { d with fl := upF d.fl i { d.fl i with cl := b } } :=
  h.setFile (r := 2) hi (by decide) _ _ rfl fun q hq hq2 => by
    match q, hq, hq2 with
    | 0, _, _ => rfl
    | 1, _, _ => rfl
    | 2, _, h => exact absurd rfl h

set_option maxRecDepth 20000 in
theorem made_any (w : World) (g : Nat) (d : Dk) (h : DC w g d) (hr : 0 < d.room) :
    Calls Try.prog 63 #[.pointer (some ⟨g, 0, none⟩)] w fun e w' => e = .returned (.bool true) ∧ w' = w := by
  have h0 := h.room
  generalize d.room = r at *
  clear h
  go_enter Try.func63, Try.ntmps63
  go_wp2
  go_ret
  exact ⟨rfl, rfl⟩

set_option maxRecDepth 20000 in
theorem made_nil (w : World) : Calls Try.prog 63 #[.pointer none] w fun e w' => e = .returned (.bool false) ∧ w' = w := by
  go_enter Try.func63, Try.ntmps63
  go_wp2
  go_ret
  exact ⟨rfl, rfl⟩

set_option maxRecDepth 20000 in
theorem made_zero (w : World) (g : Nat) (h : w.cell? ⟨g, 0, none⟩ = some (.int .i64 0)) :
    Calls Try.prog 63 #[.pointer (some ⟨g, 0, none⟩)] w fun e w' => e = .returned (.bool false) ∧ w' = w := by
  go_enter Try.func63, Try.ntmps63
  go_wp2
  go_ret
  exact ⟨rfl, rfl⟩

set_option maxRecDepth 20000 in
theorem ready_any (w : World) (g : Nat) (d : Dk) (h : DC w g d) (hr : 0 < d.room) :
    Calls Try.prog 51 #[.pointer (some ⟨g, 0, none⟩)] w fun e w' => e = .returned (.int .i64 (if d.down then 50 else 0)) ∧ w' = w := by
  have h1 := h.down
  have hM := made_any w g d h hr
  clear h hr
  cases hd : d.down with
  | true =>
    rw [hd] at h1
    clear hd
    go_enter Try.func51, Try.ntmps51
    go_wp2_with fail
    refine hM.mono ?_
    rintro e w1 ⟨rfl, rfl⟩
    go_wp2_with fail
    go_ret
    exact ⟨rfl, rfl⟩
  | false =>
    rw [hd] at h1
    clear hd
    go_enter Try.func51, Try.ntmps51
    go_wp2_with fail
    refine hM.mono ?_
    rintro e w1 ⟨rfl, rfl⟩
    go_wp2_with fail
    go_ret
    exact ⟨rfl, rfl⟩

set_option maxRecDepth 20000 in
theorem file_ok (w : World) (g : Nat) (d : Dk) (h : DC w g d) (hr : 0 < d.room) (hd : d.down = false) (i : Nat) (hi : i < 8) :
    Calls Try.prog 37 #[.pointer (some ⟨g, 0, none⟩), .int .i64 i] w fun e w' => e = .returned (.tuple #[.pointer (some ⟨g, 2 + i * 3, none⟩), .int .i64 0]) ∧ w' = w := by
  have hR := ready_any w g d h hr
  rw [hd] at hR
  have hc := h.room
  clear h hr hd
  go_enter Try.func37, Try.ntmps37
  go_wp2_with fail
  refine hR.mono ?_
  rintro e w1 ⟨rfl, rfl⟩
  go_wp2_with fail
  go_ret2
  exact ⟨rfl, rfl⟩

set_option maxRecDepth 20000 in
theorem file_none (w : World) (g : Nat) (d : Dk) (h : DC w g d) (hr : 0 < d.room) (hd : d.down = false) (i : Int) (hi : i < 0 ∨ 8 ≤ i) :
    Calls Try.prog 37 #[.pointer (some ⟨g, 0, none⟩), .int .i64 i] w fun e w' => e = .returned (.tuple #[.pointer none, .int .i64 51]) ∧ w' = w := by
  have hR := ready_any w g d h hr
  rw [hd] at hR
  clear h hr hd
  rcases hi with h | h
  · go_enter Try.func37, Try.ntmps37
    go_wp2_with fail
    refine hR.mono ?_
    rintro e w1 ⟨rfl, rfl⟩
    go_wp2_with fail
    go_ret2
    exact ⟨rfl, rfl⟩
  · have h2 : ¬ i < 0 := by omega
    go_enter Try.func37, Try.ntmps37
    go_wp2_with fail
    refine hR.mono ?_
    rintro e w1 ⟨rfl, rfl⟩
    go_wp2_with fail
    go_ret2
    exact ⟨rfl, rfl⟩

set_option maxRecDepth 20000 in
theorem file_down (w : World) (g : Nat) (d : Dk) (h : DC w g d) (hr : 0 < d.room) (hd : d.down = true) (i : Int) :
    Calls Try.prog 37 #[.pointer (some ⟨g, 0, none⟩), .int .i64 i] w fun e w' => e = .returned (.tuple #[.pointer none, .int .i64 50]) ∧ w' = w := by
  have hR := ready_any w g d h hr
  rw [hd] at hR
  clear h hr hd
  go_enter Try.func37, Try.ntmps37
  go_wp2_with fail
  refine hR.mono ?_
  rintro e w1 ⟨rfl, rfl⟩
  go_wp2_with fail
  go_ret2
  exact ⟨rfl, rfl⟩

/-- How many bytes the first k files are told to have. -/
def usedN (d : Dk) : Nat → Nat
  | 0 => 0
  | k + 1 => usedN d k + (d.fl k).tn

theorem usedN_le (d : Dk) (h : ∀ i, i < 8 → (d.fl i).tn ≤ 1099511627776) : ∀ k, k ≤ 8 → usedN d k ≤ k * 1099511627776
  | 0, _ => Nat.zero_le _
  | k + 1, hk => by
    have := usedN_le d h k (by omega)
    have := h k (by omega)
    show usedN d k + (d.fl k).tn ≤ _
    omega

set_option maxRecDepth 20000 in
theorem used_any (w : World) (g : Nat) (d : Dk) (h : DC w g d) (hr : 0 < d.room) (hs : ∀ i, i < 8 → (d.fl i).tn ≤ 1099511627776) :
    Calls Try.prog 38 #[.pointer (some ⟨g, 0, none⟩)] w fun e w' => e = .returned (.int .i64 (usedN d 8)) ∧ w' = w := by
  have hM := made_any w g d h hr
  have hc := h.room
  go_enter Try.func38, Try.ntmps38
  go_wp2_with fail
  refine hM.mono ?_
  rintro e w1 ⟨rfl, rfl⟩
  go_wp2_with fail
  go_loop [3, 8] (fun s i => ∃ k : Nat, k ≤ 8 ∧ i = .int .i64 k ∧ s = .int .i64 (usedN d k)) (fun _ i => 8 - (intOf i).toNat)
  case atStart => exact ⟨0, Nat.zero_le _, rfl, rfl⟩
  case round =>
    obtain ⟨k, hk, rfl, rfl⟩ := hrel
    by_cases h8 : k < 8
    · have hct := h.told h8
      have hle := usedN_le d hs k hk
      have hl := hs k h8
      have HS : Hid (usedN d (k + 1) = usedN d k + (d.fl k).tn) := rfl
      clear h hM hs
      generalize usedN d k = u at *
      generalize d.fl k = f at *
      obtain ⟨tp, tn, tc, lp, ln, lc, cl⟩ := f
      dsimp only at *
      go_wp2_with fail
      go_round
      case rel => exact ⟨k + 1, by omega, by go_num, by rw [HS.out]; go_num⟩
      case measure => simp [intOf]; omega
    · obtain rfl : k = 8 := by omega
      clear h hM hs
      go_wp2_with fail
      go_ret
      exact ⟨rfl, rfl⟩

set_option maxRecDepth 20000 in
theorem burn_none (w : World) (g : Nat) (d : Dk) (h : DC w g d) (hl : d.left = 0) (n : Nat) :
    Calls Try.prog 65 #[.pointer (some ⟨g, 26, none⟩), .int .i64 n] w fun e w' => e = .returned (.tuple #[.int .i64 n, .bool false]) ∧ w' = w := by
  have hc := h.left
  rw [hl] at hc
  clear h
  go_enter Try.func65, Try.ntmps65
  go_wp2_with fail
  go_ret2
  exact ⟨rfl, rfl⟩

set_option maxRecDepth 20000 in
theorem burn_out (w : World) (g : Nat) (d : Dk) (h : DC w g d) (hl : 0 < d.left) (n : Nat) (hn : d.left ≤ n) :
    Calls Try.prog 65 #[.pointer (some ⟨g, 26, none⟩), .int .i64 n] w fun e w' => e = .returned (.tuple #[.int .i64 d.left, .bool true]) ∧ w' = w := by
  have hc := h.left
  generalize d.left = l at *
  clear h
  go_enter Try.func65, Try.ntmps65
  go_wp2_with fail
  go_ret2
  exact ⟨rfl, rfl⟩

set_option maxRecDepth 20000 in
theorem burn_on (w : World) (g : Nat) (d : Dk) (h : DC w g d) (n : Nat) (hn : n < d.left) (hm : d.left ≤ 9223372036854775807) :
    Calls Try.prog 65 #[.pointer (some ⟨g, 26, none⟩), .int .i64 n] w fun e w' => e = .returned (.tuple #[.int .i64 n, .bool false]) ∧ w' = w.setCell ⟨g, 26, none⟩ (.int .i64 (d.left - n : Nat)) := by
  have hc := h.left
  have hf := h.free 26
  generalize d.left = l at *
  have e : (l : Int) - (n : Int) = ((l - n : Nat) : Int) := by omega
  clear h
  go_enter Try.func65, Try.ntmps65
  go_wp2_with fail
  go_ret2
  exact ⟨rfl, rfl⟩

set_option maxRecDepth 20000 in
theorem start_any (w : World) (g : Nat) (d : Dk) (h : DC w g d) (hr : 0 < d.room) :
    Calls Try.prog 36 #[.pointer (some ⟨g, 0, none⟩)] w fun e w' => e = .returned (.int .i64 0) ∧ w' = w.setCell ⟨g, 1, none⟩ (.bool false) := by
  have hM := made_any w g d h hr
  have hc := h.down
  have hf := h.free 1
  generalize d.down = b at *
  clear h
  go_enter Try.func36, Try.ntmps36
  go_wp2_with fail
  refine hM.mono ?_
  rintro e w1 ⟨rfl, rfl⟩
  clear hM
  go_wp2_with fail
  go_ret
  exact ⟨rfl, rfl⟩

/-- A disk that was just made. -/
def dk0 (room : Nat) : Dk := ⟨room, false, fun _ => ⟨none, 0, 0, none, 0, 0, false⟩, 0, none, 0, 0⟩

set_option maxRecDepth 20000 in
theorem new_any (w : World) (r : Nat) (h1 : 1 ≤ r) (h2 : r ≤ 4194304) :
    Calls Try.prog 9 #[.int .i64 r] w fun e w' => e = .returned (.tuple #[.pointer (some ⟨w.heap.size, 0, none⟩), .int .i64 0]) ∧ DC w' w.heap.size (dk0 r) ∧ Below w.heap.size w w' := by
  go_enter Try.func9, Try.ntmps9
  go_wp2_with fail
  go_ret2
  refine ⟨rfl, ⟨fun j hj => ?_, fun j => World.frozen?_alloc_at _ _ _ _ rfl⟩, (Below.refl _ _).alloc (Nat.le_refl _) _⟩
  match j, hj with
  | 0, _ => simp [dcell, dk0]
  | 1, _ => simp [dcell, dk0]
  | 2, _ => simp [dcell, fcell, dk0]
  | 3, _ => simp [dcell, fcell, dk0]
  | 4, _ => simp [dcell, fcell, dk0]
  | 5, _ => simp [dcell, fcell, dk0]
  | 6, _ => simp [dcell, fcell, dk0]
  | 7, _ => simp [dcell, fcell, dk0]
  | 8, _ => simp [dcell, fcell, dk0]
  | 9, _ => simp [dcell, fcell, dk0]
  | 10, _ => simp [dcell, fcell, dk0]
  | 11, _ => simp [dcell, fcell, dk0]
  | 12, _ => simp [dcell, fcell, dk0]
  | 13, _ => simp [dcell, fcell, dk0]
  | 14, _ => simp [dcell, fcell, dk0]
  | 15, _ => simp [dcell, fcell, dk0]
  | 16, _ => simp [dcell, fcell, dk0]
  | 17, _ => simp [dcell, fcell, dk0]
  | 18, _ => simp [dcell, fcell, dk0]
  | 19, _ => simp [dcell, fcell, dk0]
  | 20, _ => simp [dcell, fcell, dk0]
  | 21, _ => simp [dcell, fcell, dk0]
  | 22, _ => simp [dcell, fcell, dk0]
  | 23, _ => simp [dcell, fcell, dk0]
  | 24, _ => simp [dcell, fcell, dk0]
  | 25, _ => simp [dcell, fcell, dk0]
  | 26, _ => simp [dcell, dk0]
  | 27, _ => simp [dcell, dk0]
  | k + 28, h => exact absurd h (by omega)

end Go.Proofs.Ytpjhadaiodnnaaa.M
