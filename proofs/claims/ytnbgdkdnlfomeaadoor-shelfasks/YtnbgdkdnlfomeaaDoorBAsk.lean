/-
  Own text: contracts of a shelf's questions, of one that is one, and of one that no call made.
-/
import Derived.Test.YtnbgdkdnlfomeaaDoorBSh
import Derived.Deep.QuietTactic
import Derived.Lib.QuietBelow
namespace Go.Proofs.YtnbgdkdnlfomeaaDoor.M
open Go.ChangeShapes Go.WideShapes Go.ChangeAt Go.RowKit Go.ChangeMaps Go.MapKept Go.Maps
set_option linter.unusedSimpArgs false

/-- A shelf that no call made. -/
def NoS (v : Value) (w : World) : Prop := ∀ W : World, Below w.heap.size w W → Calls Tryd.prog 47 #[v] W fun e w' => e = .returned (.bool false) ∧ w' = W

theorem NoS.below {v : Value} {w w' : World} (h : NoS v w) (hb : Below w.heap.size w w') : NoS v w' := fun W hW => h W (hb.trans (hW.mono hb.size))

theorem NoS.nil (w : World) : NoS (.pointer none) w := fun W _ => made_nil W

theorem NoS.zero {w : World} {g : Nat} (h : w.cell? ⟨g, 2, none⟩ = some (.map none)) : NoS (.pointer (some ⟨g, 0, none⟩)) w := fun _ hW => made_zero ((hW.cell (p := ⟨g, 2, none⟩) (World.block_lt_of_cell? _ _ h)).trans h)

theorem NoS.at {v : Value} {w : World} (h : NoS v w) : Calls Tryd.prog 47 #[v] w fun e w' => e = .returned (.bool false) ∧ w' = w := h w (Below.refl _ _)

theorem ShB.made {w : World} {g b : Nat} {p : Option Addr} {n c : Nat} {s : Sh} (h : ShB w g b p n c s) : Calls Tryd.prog 47 #[.pointer (some ⟨g, 0, none⟩)] w fun e w' => e = .returned (.bool true) ∧ w' = w := made_yes h.cells.1.2.2.1

/-- The last index. -/
def Sh.last (s : Sh) : Int := s.low.ix + (s.tail.length : Nat)

theorem Sh.inv.end (s : Sh) (h : s.inv) : (endS s.low s.tail).1 = s.last := by
  unfold endS Sh.last
  rw [List.getLast?_eq_getElem?]
  rcases Nat.eq_zero_or_pos s.tail.length with h0 | h0
  · rw [List.getElem?_eq_none (by omega), h0]
    simp
  · have h1 := h.ixs (s.tail.length - 1) (by omega)
    rw [List.getD_eq_getElem?_getD, List.getElem?_eq_getElem (by omega)] at h1
    rw [List.getElem?_eq_getElem (by omega)]
    simp only [Option.getD_some] at h1
    simp only [h1]
    omega

set_option maxRecDepth 20000 in
theorem last2_no {v : Value} {w : World} (h : NoS v w) : Calls Tryd.prog 32 #[v] w fun e w' => e = .returned (.tuple #[.int .i64 0, .int .i64 0]) ∧ w' = w := by
  have hm := h.at
  clear h
  go_enter Tryd.func32, Tryd.ntmps32
  go_wp2_with fail
  refine hm.mono ?_
  rintro e w1 ⟨rfl, rfl⟩
  clear hm
  go_wp2_with fail
  exact bodyPost_ret (v := .tuple #[.int .i64 0, .int .i64 0]) (by simp [results, Tryd.results32, go_sem]) rfl ⟨rfl, rfl⟩
set_option maxRecDepth 20000 in
theorem low_no {v : Value} {w : World} (h : NoS v w) : Calls Tryd.prog 17 #[v] w fun e w' => e = .returned (.int .i64 0) ∧ w' = w := by
  have hm := h.at
  clear h
  go_enter Tryd.func17, Tryd.ntmps17
  go_wp2_with fail
  refine hm.mono ?_
  rintro e w1 ⟨rfl, rfl⟩
  clear hm
  go_wp2_with fail
  go_ret
  exact ⟨rfl, rfl⟩
set_option maxRecDepth 20000 in
theorem commit_no {v : Value} {w : World} (h : NoS v w) : Calls Tryd.prog 15 #[v] w fun e w' => e = .returned (.int .i64 0) ∧ w' = w := by
  have hm := h.at
  clear h
  go_enter Tryd.func15, Tryd.ntmps15
  go_wp2_with fail
  refine hm.mono ?_
  rintro e w1 ⟨rfl, rfl⟩
  clear hm
  go_wp2_with fail
  go_ret
  exact ⟨rfl, rfl⟩
set_option maxRecDepth 20000 in
set_option maxHeartbeats 1000000 in
theorem last2_any {w : World} {g b : Nat} {p : Option Addr} {n c : Nat} {s : Sh} (h : ShB w g b p n c s) : Calls Tryd.prog 32 #[.pointer (some ⟨g, 0, none⟩)] w fun e w' => e = .returned (.tuple #[.int .i64 s.last, .int .i64 (endS s.low s.tail).2]) ∧ Below w.heap.size w w' := by
  have hm := h.made
  obtain ⟨⟨c0, c1, _⟩, c15, _⟩ := h.cells
  have hE := end_any c0 c1 h.tl.rd (by have := h.inv.few; have := h.len; omega)
  rw [Sh.inv.end s h.inv] at hE
  generalize (endS s.low s.tail).2 = z at *
  generalize s.last = y at *
  clear h c0 c1
  go_enter Tryd.func32, Tryd.ntmps32
  go_wp2_with fail
  refine hm.mono ?_
  rintro e w1 ⟨rfl, rfl⟩
  clear hm
  go_wp2_with fail
  refine hE.mono ?_
  rintro e w2 ⟨rfl, hb⟩
  clear hE
  go_wp2_with fail
  exact bodyPost_ret (v := .tuple #[.int .i64 y, .int .i64 z]) (by simp [results, Tryd.results32, go_sem]) rfl ⟨rfl, hb⟩

set_option maxRecDepth 20000 in
theorem low_any {w : World} {g b : Nat} {p : Option Addr} {n c : Nat} {s : Sh} (h : ShB w g b p n c s) : Calls Tryd.prog 17 #[.pointer (some ⟨g, 0, none⟩)] w fun e w' => e = .returned (.int .i64 s.low.ix) ∧ w' = w := by
  have hm := h.made
  have hc : w.cell? ⟨g, 0, none⟩ = some (.int .i64 s.low.ix) := At.cell h.blk 0
  generalize s.low.ix = y at *
  clear h
  go_enter Tryd.func17, Tryd.ntmps17
  go_wp2_with fail
  refine hm.mono ?_
  rintro e w1 ⟨rfl, rfl⟩
  clear hm
  go_wp2_with fail
  go_ret
  exact ⟨rfl, rfl⟩

set_option maxRecDepth 20000 in
theorem commit_any {w : World} {g b : Nat} {p : Option Addr} {n c : Nat} {s : Sh} (h : ShB w g b p n c s) : Calls Tryd.prog 15 #[.pointer (some ⟨g, 0, none⟩)] w fun e w' => e = .returned (.int .i64 s.com) ∧ w' = w := by
  have hm := h.made
  have hc : w.cell? ⟨g, 16, none⟩ = some (.int .i64 s.com) := At.cell h.blk 16
  generalize s.com = y at *
  clear h
  go_enter Tryd.func15, Tryd.ntmps15
  go_wp2_with fail
  refine hm.mono ?_
  rintro e w1 ⟨rfl, rfl⟩
  clear hm
  go_wp2_with fail
  go_ret
  exact ⟨rfl, rfl⟩

set_option maxRecDepth 20000 in
theorem last_no {v : Value} {w : World} (h : NoS v w) : Calls Tryd.prog 49 #[v] w fun e w' => e = .returned (.int .i64 0) ∧ w' = w := by
  have hm := last2_no h
  clear h
  go_enter Tryd.func49, Tryd.ntmps49
  go_wp2_with fail
  refine hm.mono ?_
  rintro e w1 ⟨rfl, rfl⟩
  clear hm
  go_wp2_with fail
  go_ret
  exact ⟨rfl, rfl⟩

set_option maxRecDepth 20000 in
theorem last_any {w : World} {g b : Nat} {p : Option Addr} {n c : Nat} {s : Sh} (h : ShB w g b p n c s) : Calls Tryd.prog 49 #[.pointer (some ⟨g, 0, none⟩)] w fun e w' => e = .returned (.int .i64 s.last) ∧ Below w.heap.size w w' := by
  have hm := last2_any h
  generalize (endS s.low s.tail).2 = z at *
  generalize s.last = y at *
  clear h
  go_enter Tryd.func49, Tryd.ntmps49
  go_wp2_with fail
  refine hm.mono ?_
  rintro e w1 ⟨rfl, hb⟩
  clear hm
  go_wp2_with fail
  go_ret
  exact ⟨rfl, hb⟩

set_option maxRecDepth 20000 in
theorem dirty_no {v : Value} {w : World} (h : NoS v w) : Calls Tryd.prog 33 #[v] w fun e w' => e = .returned (.int .i64 0) ∧ w' = w := by
  have h1 := last_no h
  have h2 := commit_no h
  clear h
  go_enter Tryd.func33, Tryd.ntmps33
  go_wp2_with fail
  refine h1.mono ?_
  rintro e w1 ⟨rfl, rfl⟩
  clear h1
  go_wp2_with fail
  refine h2.mono ?_
  rintro e w1 ⟨rfl, rfl⟩
  clear h2
  go_wp2_with fail
  go_ret
  exact ⟨rfl, rfl⟩

set_option maxRecDepth 20000 in
theorem dirty_any {w : World} {g b : Nat} {p : Option Addr} {n c : Nat} {s : Sh} (h : ShB w g b p n c s) : Calls Tryd.prog 33 #[.pointer (some ⟨g, 0, none⟩)] w fun e w' => e = .returned (.int .i64 (s.last - s.com)) ∧ Below w.heap.size w w' := by
  have h1 := last_any h
  have h2 := fun W (hW : Below w.heap.size w W) => commit_any (h.below hW)
  have hi1 := h.inv.ix0
  have hi2 := h.inv.ix1
  have hi3 := h.inv.lo
  have hi4 := h.inv.hi
  have hl : s.last = s.low.ix + (s.tail.length : Nat) := rfl
  have hr1 : -9223372036854775808 ≤ s.last - s.com ∧ s.last - s.com ≤ 9223372036854775807 := by omega
  clear hi1 hi2 hi3 hi4 hl h
  generalize s.last = y at *
  generalize s.com = z at *
  have HR : Hid (wrap64 (y - z) = y - z) := by unfold Hid wrap64; omega
  clear hr1
  go_enter Tryd.func33, Tryd.ntmps33
  go_wp2_with fail
  refine h1.mono ?_
  rintro e w1 ⟨rfl, hb⟩
  clear h1
  go_wp2_with fail
  refine (h2 w1 hb).mono ?_
  rintro e w1 ⟨rfl, rfl⟩
  clear h2
  go_wp2_with fail
  go_ret
  rw [HR.out]
  exact ⟨rfl, hb⟩

/-- Whether a client may have made a request. -/
def isRq (c q : Int) : Bool := decide (0 ≤ c) && (decide (c < 4) && (decide (1 ≤ q) && decide (q ≤ 1099511627776)))

set_option maxRecDepth 20000 in
theorem isRq_any (c q : Int) (w : World) : Calls Tryd.prog 53 #[.agg #[.int .i64 c, .int .i64 q]] w fun e w' => e = .returned (.bool (isRq c q)) ∧ Below w.heap.size w w' := by
  have hba := below_alloc' w (.cells #[.int .i64 c, .int .i64 q] 30)
  unfold isRq
  by_cases h1 : 0 ≤ c
  · by_cases h2 : c < 4
    · by_cases h3 : 1 ≤ q
      · rw [decide_eq_true h1, decide_eq_true h2, decide_eq_true h3]
        go_enter Tryd.func53, Tryd.ntmps53
        go_wp2_with fail
        go_ret
        exact ⟨rfl, hba⟩
      · rw [decide_eq_true h1, decide_eq_true h2, decide_eq_false h3]
        go_enter Tryd.func53, Tryd.ntmps53
        go_wp2_with fail
        go_ret
        exact ⟨rfl, hba⟩
    · rw [decide_eq_true h1, decide_eq_false h2]
      go_enter Tryd.func53, Tryd.ntmps53
      go_wp2_with fail
      go_ret
      exact ⟨rfl, hba⟩
  · rw [decide_eq_false h1]
    go_enter Tryd.func53, Tryd.ntmps53
    go_wp2_with fail
    go_ret
    exact ⟨rfl, hba⟩

/-- The records up to an index from the table's on. -/
def Sh.upTo (s : Sh) (i : Int) : List Rc := s.tail.take (i - s.low.ix).toNat

set_option maxRecDepth 20000 in
set_option maxHeartbeats 1000000 in
theorem upTo_any {w : World} {g b : Nat} {p : Option Addr} {n c : Nat} {s : Sh} (h : ShB w g b p n c s) (i : Int) (h1 : s.low.ix ≤ i) (h2 : i ≤ s.last) :
    Calls Tryd.prog 52 #[.pointer (some ⟨g, 0, none⟩), .int .i64 i] w fun e w' => e = .returned (.slice p (i - s.low.ix).toNat c) ∧ Below w.heap.size w w' := by
  obtain ⟨⟨c0, _⟩, c15, _⟩ := h.cells
  have hcap := h.tl.rd.cap
  have hn := h.len
  have hl : s.last = s.low.ix + (s.tail.length : Nat) := rfl
  have hi0 := h.inv.ix0
  have hi1 := h.inv.ix1
  obtain ⟨k, hk⟩ : ∃ k : Nat, i = s.low.ix + (k : Nat) := ⟨(i - s.low.ix).toNat, by omega⟩
  have hkt : (i - s.low.ix).toNat = k := by omega
  rw [hkt]
  have hd : i - s.low.ix = (k : Int) := by omega
  have hkc : (k : Int) ≤ (c : Int) := by omega
  have hkc2 : k ≤ c := by omega
  generalize s.low.ix = x at *
  have hr1 : -9223372036854775808 ≤ i - x ∧ i - x ≤ 9223372036854775807 := by omega
  have HW : Hid (IntKind.i64.wrap (i - x) = (k : Int)) := by unfold Hid; rw [IntKind.wrap_i64]; omega
  clear hk h1 h2 hl hi0 hi1 h hn hkt hr1 hd
  go_enter Tryd.func52, Tryd.ntmps52
  go_wp2_with fail
  have k0 := cell_regrown c0
  have k1 := cell_regrown c15
  have hw := HW.out
  clear HW
  refine wp_region_quiet_below (by kernel_rfl) (by kernel_rfl) ?_
  repeat (with_reducible refine wpQuiet_step (fun K hK => ?_); go_simp; first | (with_reducible refine hK _ ?_; clear hK K) | (rw [if_neg (by decide)]; with_reducible refine hK _ ?_; clear hK K))
  with_reducible refine wpQuiet_nil ?_
  intro _ hw'
  obtain ⟨⟨dq, osq⟩, hw''⟩ := hw'
  subst hw''
  have hb1 := below_regrown w dq osq
  go_wp2_with fail
  go_ret
  exact ⟨rfl, hb1⟩

/-- What keeps a shelf from changing behind an index. -/
def Sh.openS (s : Sh) (i : Int) : Int := if i < s.com then 90 else if s.last < i then 90 else 0

set_option maxRecDepth 20000 in
theorem open_any {w : World} {g b : Nat} {p : Option Addr} {n c : Nat} {s : Sh} (h : ShB w g b p n c s) (i : Int) :
    Calls Tryd.prog 58 #[.pointer (some ⟨g, 0, none⟩), .int .i64 i] w fun e w' => e = .returned (.int .i64 (s.openS i)) ∧ Below w.heap.size w w' := by
  have hm := h.made
  have hL := last_any h
  have c16 := h.cells.2.2
  unfold Sh.openS
  generalize s.last = y at *
  generalize s.com = z at *
  clear h
  by_cases h1 : i < z
  · rw [if_pos h1]
    go_enter Tryd.func58, Tryd.ntmps58
    go_wp2_with fail
    refine hm.mono ?_
    rintro e w1 ⟨rfl, rfl⟩
    clear hm
    go_wp2_with fail
    go_ret
    exact ⟨rfl, Below.refl _ _⟩
  · rw [if_neg h1]
    by_cases h2 : y < i
    · rw [if_pos h2]
      go_enter Tryd.func58, Tryd.ntmps58
      go_wp2_with fail
      refine hm.mono ?_
      rintro e w1 ⟨rfl, rfl⟩
      clear hm
      go_wp2_with fail
      refine hL.mono ?_
      rintro e w2 ⟨rfl, hb⟩
      clear hL
      go_wp2_with fail
      go_ret
      exact ⟨rfl, hb⟩
    · rw [if_neg h2]
      go_enter Tryd.func58, Tryd.ntmps58
      go_wp2_with fail
      refine hm.mono ?_
      rintro e w1 ⟨rfl, rfl⟩
      clear hm
      go_wp2_with fail
      refine hL.mono ?_
      rintro e w2 ⟨rfl, hb⟩
      clear hL
      go_wp2_with fail
      go_ret
      exact ⟨rfl, hb⟩

set_option maxRecDepth 20000 in
theorem open_no {v : Value} {w : World} (h : NoS v w) (i : Int) : Calls Tryd.prog 58 #[v, .int .i64 i] w fun e w' => e = .returned (.int .i64 6) ∧ w' = w := by
  have hm := h.at
  clear h
  go_enter Tryd.func58, Tryd.ntmps58
  go_wp2_with fail
  refine hm.mono ?_
  rintro e w1 ⟨rfl, rfl⟩
  clear hm
  go_wp2_with fail
  go_ret
  exact ⟨rfl, rfl⟩

end Go.Proofs.YtnbgdkdnlfomeaaDoor.M
