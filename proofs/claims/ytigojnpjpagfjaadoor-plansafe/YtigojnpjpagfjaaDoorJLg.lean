/-
  Own text: commands in plain words: which may be; the contract of ledger's Check.
  Own text: reading numbers of at most 2^40 one behind the other: contracts of Within, End and of ledger's Get.
  Own text: blocks of cells, as they lie.
  Own text: the contract of ledger's Get.
  Own text: the contract of the reference's Check.
  Own text: contracts of ledger's Put, and of the reference's.
  Own text: what a command makes of a chain: the contract of ledger's change.
  Own text: a ledger in memory; contracts of made, At, copied, Chain.
  Own text: what Apply makes of a ledger, in plain words; a ledger's memory behind its stores.
-/
import Derived.Test.YtigojnpjpagfjaaDoorJW
import Derived.Laws.Tables
import Derived.Deep.DeepAppendRoom
import Derived.ArgAppend
import Derived.Deep.MidRow
namespace Go.Proofs.YtigojnpjpagfjaaDoor.M
open Go.ChangeShapes Go.WideShapes Go.ChangeAt Go.RowKit

/-- Whether a command may be. -/
def cmdOk (k n s e : Int) : Bool :=
  (((k == 1 || k == 3 || k == 4) && decide (0 ≤ n) && decide (n < 6) && s == 0) || ((k == 2) && decide (0 ≤ n) && decide (n < 6) && decide (0 ≤ s) && decide (s < 3)) || ((k == 5) && n == 0 && decide (0 ≤ s) && decide (s < 3))) && decide (1 ≤ e) && decide (e ≤ 1099511627776)

/-- What Check answers. -/
def cmdV (b : Bool) : Int := if b then 0 else 120

theorem cmd_yes {b : Bool} (h : b = true) : (0 : Int) = cmdV b := by rw [h]; rfl
theorem cmd_no {b : Bool} (h : b = false) : (120 : Int) = cmdV b := by rw [h]; rfl

set_option maxRecDepth 20000 in
set_option maxHeartbeats 4000000 in
theorem lCheck_any (k n s e : Int) (w : World) :
    Calls Tryd.prog 52 #[.agg #[.int .i64 k, .int .i64 n, .int .i64 s, .int .i64 e]] w fun r w' => r = .returned (.int .i64 (cmdV (cmdOk k n s e))) ∧ Below w.heap.size w w' := by
  by_cases h1 : k = 1
  · subst h1
    go_enter Tryd.func52, Tryd.ntmps52
    go_wp2
    all_goals go_ret
    all_goals exact ⟨ret_int (by first | exact cmd_yes (by unfold cmdOk; simp [*]; omega) | exact cmd_no (by unfold cmdOk; simp [*]; omega) | exact cmd_yes (by unfold cmdOk; simp [*]) | exact cmd_no (by unfold cmdOk; simp [*])), (Below.refl _ _).alloc (Nat.le_refl _) _⟩
  by_cases h3 : k = 3
  · subst h3
    go_enter Tryd.func52, Tryd.ntmps52
    go_wp2
    all_goals go_ret
    all_goals exact ⟨ret_int (by first | exact cmd_yes (by unfold cmdOk; simp [*]; omega) | exact cmd_no (by unfold cmdOk; simp [*]; omega) | exact cmd_yes (by unfold cmdOk; simp [*]) | exact cmd_no (by unfold cmdOk; simp [*])), (Below.refl _ _).alloc (Nat.le_refl _) _⟩
  by_cases h4 : k = 4
  · subst h4
    go_enter Tryd.func52, Tryd.ntmps52
    go_wp2
    all_goals go_ret
    all_goals exact ⟨ret_int (by first | exact cmd_yes (by unfold cmdOk; simp [*]; omega) | exact cmd_no (by unfold cmdOk; simp [*]; omega) | exact cmd_yes (by unfold cmdOk; simp [*]) | exact cmd_no (by unfold cmdOk; simp [*])), (Below.refl _ _).alloc (Nat.le_refl _) _⟩
  by_cases h2 : k = 2
  · subst h2
    go_enter Tryd.func52, Tryd.ntmps52
    go_wp2
    all_goals go_ret
    all_goals exact ⟨ret_int (by first | exact cmd_yes (by unfold cmdOk; simp [*]; omega) | exact cmd_no (by unfold cmdOk; simp [*]; omega) | exact cmd_yes (by unfold cmdOk; simp [*]) | exact cmd_no (by unfold cmdOk; simp [*])), (Below.refl _ _).alloc (Nat.le_refl _) _⟩
  by_cases h5 : k = 5
  · subst h5
    go_enter Tryd.func52, Tryd.ntmps52
    go_wp2
    all_goals go_ret
    all_goals exact ⟨ret_int (by first | exact cmd_yes (by unfold cmdOk; simp [*]; omega) | exact cmd_no (by unfold cmdOk; simp [*]; omega) | exact cmd_yes (by unfold cmdOk; simp [*]) | exact cmd_no (by unfold cmdOk; simp [*])), (Below.refl _ _).alloc (Nat.le_refl _) _⟩
  have hno : cmdOk k n s e = false := by unfold cmdOk; simp [h1, h2, h3, h4, h5]
  have b1 : (k == 1) = false := by simp [h1]
  have b2 : (k == 2) = false := by simp [h2]
  have b3 : (k == 3) = false := by simp [h3]
  have b4 : (k == 4) = false := by simp [h4]
  have b5 : (k == 5) = false := by simp [h5]
  rw [hno]
  clear hno h1 h2 h3 h4 h5
  go_enter Tryd.func52, Tryd.ntmps52
  go_wp2
  all_goals go_ret
  all_goals exact ⟨rfl, (Below.refl _ _).alloc (Nat.le_refl _) _⟩

end Go.Proofs.YtigojnpjpagfjaaDoor.M

namespace Go.Proofs.YtigojnpjpagfjaaDoor.M
open Go.ChangeShapes Go.WideShapes Go.ChangeAt Go.RowKit

/-- A reader behind a number of at most 2^40: its number, and what it is then. -/
def wR (s : List Int × Nat) : Int × (List Int × Nat) :=
  if s.2 = 0 then (if (numR s.1).2.2 = 0 then (if (numR s.1).1 ≤ 1099511627776 then (((numR s.1).1 : Int), (s.1.drop (numR s.1).2.1, 0)) else (0, (s.1, 5))) else (0, (s.1, (numR s.1).2.2))) else (0, s)

theorem numG_bad : ∀ (xs : List Int) (i acc : Nat), (numG i acc xs).2.2 ≠ 0 → (numG i acc xs).1 = 0 := by
  intro xs
  induction xs with
  | nil => intro i acc _; rfl
  | cons x l ih =>
    intro i acc
    unfold numG
    split
    · intro _; rfl
    · split
      · intro _; rfl
      · split
        · intro h; exact absurd rfl h
        · exact ih _ _

theorem numR_bad {xs : List Int} (h : (numR xs).2.2 ≠ 0) : (numR xs).1 = 0 := numG_bad xs 0 0 h

/-- A reader in block g that has this to read, and that error. -/
def RdS (w : World) (g : Nat) (s : List Int × Nat) : Prop := ∃ p n c, Rdr w g p n c s.1 s.2

theorem Ex.of_grown {w w' : World} {g : Nat} (h : w.grownBy w' (some g)) : Ex g w w' := ⟨h.os, h.tape, h.output, h.size, fun k hk hne => h.block k hk (fun e => hne (Option.some.inj e))⟩

set_option maxRecDepth 20000 in
set_option maxHeartbeats 2000000 in
theorem within_any (g : Nat) (s : List Int × Nat) (w : World) (h : RdS w g s) :
    Calls Tryd.prog 73 #[.pointer (some ⟨g, 0, none⟩), .int .i64 0, .int .i64 1099511627776] w fun e w' => e = .returned (.int .i64 (wR s).1) ∧ RdS w' g (wR s).2 ∧ Ex g w w' := by
  obtain ⟨p, n, c, h⟩ := h
  obtain ⟨xs, err⟩ := s
  dsimp only at h
  have hE := err_any g p n c xs err w h
  by_cases h0 : err = 0
  · subst h0
    have hN := number_any p n c xs w h.rd h.byt h.room
    have h1 := h.rest
    by_cases he : (numR xs).2.2 = 0
    · have hroom := num_room h.byt he
      have hl := h.rd.len
      obtain ⟨b, o, rfl, _⟩ := h.rd.cells (by omega)
      obtain ⟨m, hm64, hme, _⟩ := numR_form h.byt he
      have hv : (numR xs).1 < 18446744073709551616 := by rw [hme]; exact hm64
      rw [he] at hN
      by_cases hle : (numR xs).1 ≤ 1099511627776
      · have HW : Hid (wR (xs, 0) = (((numR xs).1 : Int), (xs.drop (numR xs).2.1, 0))) := by unfold Hid wR; dsimp only; rw [if_pos rfl, if_pos he, if_pos hle]
        have hS := step_ok g b o n c xs 0 (numR xs).2.1 w h (by omega) (by omega)
        rw [HW.out]
        generalize (numR xs).1 = v at *
        generalize (numR xs).2.1 = a at *
        have hc1 : IntKind.i64.wrap (v : Int) = (v : Int) := by rw [IntKind.wrap_i64]; omega
        have d1 : decide ((4611686018427387904 : Int) < (v : Int)) = false := decide_eq_false (by omega)
        have d2 : decide ((v : Int) < 0) = false := decide_eq_false (by omega)
        have d3 : decide ((1099511627776 : Int) < (v : Int)) = false := decide_eq_false (by omega)
        clear h he hroom hl hme HW hv hle
        go_enter Tryd.func73, Tryd.ntmps73
        go_wp2_with fail
        refine hE.mono ?_
        rintro e w1 ⟨rfl, hw⟩
        subst hw
        go_wp2_with fail
        refine hN.mono ?_
        rintro e w1 ⟨rfl, hw⟩
        subst hw
        go_wp2_with fail
        refine hS.mono ?_
        rintro e w2 ⟨rfl, ⟨p', c', hR⟩, hg⟩
        go_wp2_with fail
        go_ret
        exact ⟨rfl, ⟨p', _, c', hR⟩, Ex.of_grown hg⟩
      · have HW : Hid (wR (xs, 0) = (0, (xs, 5))) := by unfold Hid wR; dsimp only; rw [if_pos rfl, if_pos he, if_neg hle]
        have hS := step_err g (some ⟨b, o, none⟩) n c xs 0 (numR xs).2.1 5 w h (by decide)
        rw [HW.out]
        generalize (numR xs).1 = v at *
        generalize (numR xs).2.1 = a at *
        clear h he hroom hl hme HW
        by_cases hbig : 4611686018427387904 < v
        · have d1 : decide ((4611686018427387904 : Int) < (v : Int)) = true := decide_eq_true (by omega)
          clear hle hv hbig
          go_enter Tryd.func73, Tryd.ntmps73
          go_wp2_with fail
          refine hE.mono ?_
          rintro e w1 ⟨rfl, hw⟩
          subst hw
          go_wp2_with fail
          refine hN.mono ?_
          rintro e w1 ⟨rfl, hw⟩
          subst hw
          go_wp2_with fail
          refine hS.mono ?_
          rintro e w2 ⟨rfl, hR, hg⟩
          go_wp2_with fail
          go_ret
          exact ⟨rfl, ⟨_, _, _, hR⟩, Ex.of_grown hg⟩
        · have hc1 : IntKind.i64.wrap (v : Int) = (v : Int) := by rw [IntKind.wrap_i64]; omega
          have d1 : decide ((4611686018427387904 : Int) < (v : Int)) = false := decide_eq_false (by omega)
          have d2 : decide ((v : Int) < 0) = false := decide_eq_false (by omega)
          have d3 : decide ((1099511627776 : Int) < (v : Int)) = true := decide_eq_true (by omega)
          clear hle hv hbig
          go_enter Tryd.func73, Tryd.ntmps73
          go_wp2_with fail
          refine hE.mono ?_
          rintro e w1 ⟨rfl, hw⟩
          subst hw
          go_wp2_with fail
          refine hN.mono ?_
          rintro e w1 ⟨rfl, hw⟩
          subst hw
          go_wp2_with fail
          refine hS.mono ?_
          rintro e w2 ⟨rfl, hR, hg⟩
          go_wp2_with fail
          go_ret
          exact ⟨rfl, ⟨_, _, _, hR⟩, Ex.of_grown hg⟩
    · have HW : Hid (wR (xs, 0) = (0, (xs, (numR xs).2.2))) := by unfold Hid wR; dsimp only; rw [if_pos rfl, if_neg he]
      have hS := step_err g p n c xs 0 (numR xs).2.1 (numR xs).2.2 w h (by omega)
      rw [numR_bad he] at hN
      rw [HW.out]
      generalize (numR xs).2.1 = a at *
      generalize (numR xs).2.2 = d at *
      have hd0 : ((d : Int) == 0) = false := by rw [beq_eq_false_iff_ne]; omega
      clear h he HW
      go_enter Tryd.func73, Tryd.ntmps73
      go_wp2_with fail
      refine hE.mono ?_
      rintro e w1 ⟨rfl, hw⟩
      subst hw
      go_wp2_with fail
      refine hN.mono ?_
      rintro e w1 ⟨rfl, hw⟩
      subst hw
      go_wp2_with fail
      refine hS.mono ?_
      rintro e w2 ⟨rfl, hR, hg⟩
      go_wp2_with fail
      go_ret
      exact ⟨rfl, ⟨_, _, _, hR⟩, Ex.of_grown hg⟩
  · have HW : Hid (wR (xs, err) = (0, (xs, err))) := by unfold Hid wR; dsimp only; rw [if_neg h0]
    have hd0 : ((err : Int) != 0) = true := by simp [h0]
    rw [HW.out]
    have hS : RdS w g (xs, err) := ⟨p, n, c, h⟩
    clear h HW h0
    go_enter Tryd.func73, Tryd.ntmps73
    go_wp2_with fail
    refine hE.mono ?_
    rintro e w1 ⟨rfl, hw⟩
    subst hw
    go_wp2_with fail
    go_ret
    exact ⟨rfl, hS, Ex.refl _ _⟩

/-- The first error of a reader, or that something is left. -/
def endR (s : List Int × Nat) : Int := if s.2 = 0 then (if s.1 = [] then 0 else 3) else (s.2 : Int)

set_option maxRecDepth 20000 in
set_option maxHeartbeats 2000000 in
theorem end_any (g : Nat) (s : List Int × Nat) (w : World) (h : RdS w g s) :
    Calls Tryd.prog 74 #[.pointer (some ⟨g, 0, none⟩)] w fun e w' => e = .returned (.int .i64 (endR s)) ∧ w' = w := by
  obtain ⟨p, n, c, h⟩ := h
  obtain ⟨xs, err⟩ := s
  dsimp only at h
  have hE := err_any g p n c xs err w h
  have h1 := h.rest
  have hl := h.rd.len
  by_cases h0 : err = 0
  · subst h0
    by_cases hx : xs = []
    · subst hx
      have HW : Hid (endR ([], 0) = 0) := rfl
      obtain rfl : n = 0 := hl.symm
      rw [HW.out]
      clear h HW hl
      go_enter Tryd.func74, Tryd.ntmps74
      go_wp2_with fail
      refine hE.mono ?_
      rintro e w1 ⟨rfl, hw⟩
      subst hw
      go_wp2_with fail
      go_ret
      exact ⟨rfl, rfl⟩
    · have HW : Hid (endR (xs, 0) = 3) := by unfold Hid endR; dsimp only; rw [if_pos rfl, if_neg hx]
      have hn0 : 0 < n := by
        have : 0 < xs.length := List.length_pos_iff.2 hx
        omega
      rw [HW.out]
      clear h HW hl hx
      go_enter Tryd.func74, Tryd.ntmps74
      go_wp2_with fail
      refine hE.mono ?_
      rintro e w1 ⟨rfl, hw⟩
      subst hw
      go_wp2_with fail
      go_ret
      exact ⟨rfl, rfl⟩
  · have HW : Hid (endR (xs, err) = (err : Int)) := by unfold Hid endR; dsimp only; rw [if_neg h0]
    have hd0 : ((err : Int) != 0) = true := by simp [h0]
    rw [HW.out]
    clear h HW h0 hl h1
    go_enter Tryd.func74, Tryd.ntmps74
    go_wp2_with fail
    refine hE.mono ?_
    rintro e w1 ⟨rfl, hw⟩
    subst hw
    go_wp2_with fail
    go_ret
    exact ⟨rfl, rfl⟩

end Go.Proofs.YtigojnpjpagfjaaDoor.M

namespace Go.Proofs.YtigojnpjpagfjaaDoor.M
open Go.ChangeShapes Go.WideShapes Go.ChangeAt Go.RowKit

theorem At.ex {t : TypeId} {w w' : World} {g x : Nat} {cs : Array Value} (h : At t w g cs) (he : Ex x w w') (hne : g ≠ x) : At t w' g cs := by
  unfold At
  rw [he.block g h.lt hne]
  exact h

theorem At.one {t : TypeId} {w : World} {g : Nat} {x : Value} (h : At t w g #[x]) : w.cell? ⟨g, 0, none⟩ = some x := h.cell 0

theorem At.jput4 {t : TypeId} {w : World} {g B : Nat} {x y z u : Value} (h : At t w g #[x, y, z, u]) (hB : B ≤ g) (w0 : World) (hb : Below B w0 w) (a b c d : Value) :
    ∃ W, W = (((w.setCell ⟨g, 0, none⟩ a).setCell ⟨g, 1, none⟩ b).setCell ⟨g, 2, none⟩ c).setCell ⟨g, 3, none⟩ d ∧ At t W g #[a, b, c, d] ∧ Below B w0 W := by
  refine ⟨_, rfl, ?_, ?_⟩
  · unfold At at *
    have h1 := heap_setCell_same w g 0 _ _ a h
    have h2 := heap_setCell_same _ g 1 _ _ b h1
    have h3 := heap_setCell_same _ g 2 _ _ c h2
    have h4 := heap_setCell_same _ g 3 _ _ d h3
    exact h4
  · have e := Ex.setC (g := g) (w := w) [a, b, c, d] 0 w (Ex.refl _ _)
    exact hb.trans (e.below hB h.lt)

end Go.Proofs.YtigojnpjpagfjaaDoor.M

namespace Go.Proofs.YtigojnpjpagfjaaDoor.M
open Go.ChangeShapes Go.WideShapes Go.ChangeAt Go.RowKit

theorem RdS.ex {w w' : World} {g : Nat} {s : List Int × Nat} (h : RdS w g s) (hb : Below w.heap.size w w') : RdS w' g s := by
  obtain ⟨p, n, c, h⟩ := h
  exact ⟨p, n, c, h.below hb h.lt⟩

theorem cfNext : Cf 72 := fun args w => cf_of Tryd.func72 (by kernel_rfl) (by kernel_rfl) args w

set_option maxRecDepth 20000 in
theorem jnext_any (r g : Nat) (s : List Int × Nat) (w : World) (hp : w.cell? ⟨r, 0, none⟩ = some (.pointer (some ⟨g, 0, none⟩))) (h : RdS w g s) :
    Calls Tryd.prog 72 #[.pointer (some ⟨r, 0, none⟩)] w fun e w' => e = .returned (.int .i64 (wR s).1) ∧ RdS w' g (wR s).2 ∧ Ex g w w' := by
  have hW := within_any g s w h
  clear h
  go_enter Tryd.func72, Tryd.ntmps72
  go_wp2_with fail
  refine hW.mono ?_
  rintro e w1 ⟨rfl, hR, hx⟩
  go_wp2_with fail
  go_ret
  exact ⟨rfl, hR, hx⟩

/-- What four numbers are read. -/
def cmd4 (xs : List Int) : Int × Int × Int × Int × Int :=
  let a := wR (xs, 0)
  let b := wR a.2
  let c := wR b.2
  let d := wR c.2
  (a.1, b.1, c.1, d.1, endR d.2)

/-- The command that bytes are. -/
def getR (xs : List Int) : Option (Int × Int × Int × Int) :=
  if (cmd4 xs).2.2.2.2 = 0 ∧ cmdOk (cmd4 xs).1 (cmd4 xs).2.1 (cmd4 xs).2.2.1 (cmd4 xs).2.2.2.1 = true then some ((cmd4 xs).1, (cmd4 xs).2.1, (cmd4 xs).2.2.1, (cmd4 xs).2.2.2.1) else none

/-- What Get answers. -/
def getV : Option (Int × Int × Int × Int) → Value
  | none => .tuple #[.agg #[.int .i64 0, .int .i64 0, .int .i64 0, .int .i64 0], .int .i64 120]
  | some (k, n, s, e) => .tuple #[.agg #[.int .i64 k, .int .i64 n, .int .i64 s, .int .i64 e], .int .i64 0]

theorem cmd_info : (Tryd.prog.info? 37).map (·.size) = some 4 := by kernel_rfl

set_option maxRecDepth 20000 in
set_option maxHeartbeats 4000000 in
theorem Get_any (p : Option Addr) (n c : Nat) (xs : List Int) (w : World) (hr : Rd .u8 w p n c xs) (hx : By xs) (hn : n ≤ 1099511627776) :
    Calls Tryd.prog 54 #[.slice p n c] w fun r w' => r = .returned (getV (getR xs)) ∧ Below w.heap.size w w' := by
  have hb0 : Below w.heap.size w (w.alloc (.cells #[.int .i64 0, .int .i64 0, .int .i64 0, .int .i64 0] 37)) := (Below.refl _ _).alloc (Nat.le_refl _) _
  have hZ := At.new 37 w #[.int .i64 0, .int .i64 0, .int .i64 0, .int .i64 0]
  have g1 := read_any p n c xs _ (hr.below hb0) hx hn
  have hcf : ∀ (args : Array Value) (w : World), (callFunc 72 args).run Tryd.prog w = .ok (.enter 72 args) w := cfNext
  have HG : Hid (getR xs = if endR (wR (wR (wR (wR (xs, 0)).2).2).2).2 = 0 ∧ cmdOk (wR (xs, 0)).1 (wR (wR (xs, 0)).2).1 (wR (wR (wR (xs, 0)).2).2).1 (wR (wR (wR (wR (xs, 0)).2).2).2).1 = true then some ((wR (xs, 0)).1, (wR (wR (xs, 0)).2).1, (wR (wR (wR (xs, 0)).2).2).1, (wR (wR (wR (wR (xs, 0)).2).2).2).1) else none) := rfl
  clear hr
  go_enter Tryd.func54, Tryd.ntmps54
  go_wp2_with fail
  refine g1.mono ?_
  rintro e w1 ⟨g, p1, c1, rfl, hR1, hg, hsz, hb1⟩
  have hbb := hb0.trans (hb1.mono hb0.size)
  have hba := below_alloc w1 (.cells #[.pointer (some ⟨g, 0, none⟩)] 108)
  have hb2 := hbb.trans (hba.mono hbb.size)
  replace hZ := (hZ.below hb1).below hba
  have hS0 : RdS w1 g (xs, 0) := ⟨p1, n, c1, hR1⟩
  have hS := hS0.ex hba
  have hP := At.new 108 w1 #[.pointer (some ⟨g, 0, none⟩)]
  have hgw : w.heap.size + 1 ≤ g := by simpa using hg
  have hne1 : w1.heap.size ≠ g := by omega
  generalize hrr : w1.heap.size = r at *
  have q1 := hP.one
  obtain ⟨s0, HS0⟩ : ∃ s : List Int × Nat, Hid (s = (xs, 0)) := ⟨_, rfl⟩
  rw [← HS0.out] at HG hS
  have n1 := jnext_any r g s0 _ q1 hS
  have hzg : w.heap.size ≠ g := by omega
  have hgl : w.heap.size ≤ g := by omega
  clear g1 hR1 hb1 hbb hS0 hx hb0 HS0 hg hsz hgw hba
  have hglt : g < (w1.alloc (.cells #[.pointer (some ⟨g, 0, none⟩)] 108)).heap.size := by obtain ⟨_, _, _, hq⟩ := hS; exact hq.lt
  go_wp2_with fail
  generalize (w1.alloc (.cells #[.pointer (some ⟨g, 0, none⟩)] 108)) = w2 at *
  refine n1.mono ?_
  rintro e W1 ⟨rfl, hS1, hx1⟩
  have hP1 := hP.ex hx1 hne1
  have hZ1 := hZ.ex hx1 hzg
  have hB1 := hb2.trans (hx1.below hgl hglt)
  have hl1 : g < W1.heap.size := Nat.lt_of_lt_of_le hglt hx1.size
  obtain ⟨s1, HS1⟩ : ∃ s : List Int × Nat, Hid ((wR s0).2 = s) := ⟨_, rfl⟩
  obtain ⟨v1, HV1⟩ : ∃ v : Int, Hid ((wR s0).1 = v) := ⟨_, rfl⟩
  rw [HS1.out] at hS1 HG
  rw [HV1.out] at HG ⊢
  have p2 := hP1.one
  have n2 := jnext_any r g s1 _ p2 hS1
  clear n1 q1
  go_wp2_with fail
  refine n2.mono ?_
  rintro e W2 ⟨rfl, hS2, hx2⟩
  have hP2 := hP1.ex hx2 hne1
  have hZ2 := hZ1.ex hx2 hzg
  have hB2 := hB1.trans (hx2.below hgl hl1)
  have hl2 : g < W2.heap.size := Nat.lt_of_lt_of_le hl1 hx2.size
  obtain ⟨s2, HS2⟩ : ∃ s : List Int × Nat, Hid ((wR s1).2 = s) := ⟨_, rfl⟩
  obtain ⟨v2, HV2⟩ : ∃ v : Int, Hid ((wR s1).1 = v) := ⟨_, rfl⟩
  rw [HS2.out] at hS2 HG
  rw [HV2.out] at HG ⊢
  have p3 := hP2.one
  have n3 := jnext_any r g s2 _ p3 hS2
  clear n2 p2
  go_wp2_with fail
  refine n3.mono ?_
  rintro e W3 ⟨rfl, hS3, hx3⟩
  have hP3 := hP2.ex hx3 hne1
  have hZ3 := hZ2.ex hx3 hzg
  have hB3 := hB2.trans (hx3.below hgl hl2)
  have hl3 : g < W3.heap.size := Nat.lt_of_lt_of_le hl2 hx3.size
  obtain ⟨s3, HS3⟩ : ∃ s : List Int × Nat, Hid ((wR s2).2 = s) := ⟨_, rfl⟩
  obtain ⟨v3, HV3⟩ : ∃ v : Int, Hid ((wR s2).1 = v) := ⟨_, rfl⟩
  rw [HS3.out] at hS3 HG
  rw [HV3.out] at HG ⊢
  have p4 := hP3.one
  have n4 := jnext_any r g s3 _ p4 hS3
  clear n3 p3
  go_wp2_with fail
  refine n4.mono ?_
  rintro e W4 ⟨rfl, hS4, hx4⟩
  have hP4 := hP3.ex hx4 hne1
  have hZ4 := hZ3.ex hx4 hzg
  have hB4 := hB3.trans (hx4.below hgl hl3)
  have hl4 : g < W4.heap.size := Nat.lt_of_lt_of_le hl3 hx4.size
  obtain ⟨s4, HS4⟩ : ∃ s : List Int × Nat, Hid ((wR s3).2 = s) := ⟨_, rfl⟩
  obtain ⟨v4, HV4⟩ : ∃ v : Int, Hid ((wR s3).1 = v) := ⟨_, rfl⟩
  rw [HS4.out] at hS4 HG
  rw [HV4.out] at HG ⊢
  have p5 := hP4.one
  have hba := below_alloc W4 (.cells #[.int .i64 v1, .int .i64 v2, .int .i64 v3, .int .i64 v4] 37)
  have hS5 := hS4.ex hba
  have hP5 := hP4.below hba
  have hZ5 := hZ4.below hba
  have hB5 := hB4.trans (hba.mono hB4.size)
  have hC5 := At.new 37 W4 #[.int .i64 v1, .int .i64 v2, .int .i64 v3, .int .i64 v4]
  have hE := end_any g s4 _ hS5
  have p6 := hP5.one
  obtain ⟨c0, c1, c2, c3⟩ := hC5.four
  obtain ⟨z0, z1, z2, z3⟩ := hZ5.four
  have f0 := hZ5.free 0
  have f1 := hZ5.free 1
  have f2 := hZ5.free 2
  have f3 := hZ5.free 3
  have hK := fun W => lCheck_any v1 v2 v3 v4 W
  clear n4 p4
  go_wp2_with fail
  generalize (W4.alloc (.cells #[.int .i64 v1, .int .i64 v2, .int .i64 v3, .int .i64 v4] 37)) = W5 at *
  refine hE.mono ?_
  rintro e W6 ⟨rfl, hw6⟩
  subst hw6
  by_cases he : endR s4 = 0
  · rw [he]
    cases hk : cmdOk v1 v2 v3 v4 with
    | true =>
      have HN : Hid (getR xs = some (v1, v2, v3, v4)) := by unfold Hid; rw [HG.out, if_pos ⟨he, hk⟩]
      rw [hk] at hK
      unfold cmdV at hK
      simp only [if_true] at hK
      clear HG hk he hE HS1 HS2 HS3 HS4 HV1 HV2 HV3 HV4
      go_wp2_with fail
      refine (hK _).mono ?_
      rintro r W7 ⟨rfl, hb7⟩
      have hZ7 := hZ5.below hb7
      have hB7 := hB5.trans (hb7.mono hB5.size)
      have hC7 := hC5.below hb7
      clear c0 c1 c2 c3 z0 z1 z2 z3 f0 f1 f2 f3 hK p6 p5
      obtain ⟨c0, c1, c2, c3⟩ := hC7.four
      obtain ⟨z0, z1, z2, z3⟩ := hZ7.four
      have f0 := hZ7.free 0
      have f1 := hZ7.free 1
      have f2 := hZ7.free 2
      have f3 := hZ7.free 3
      go_wp2_with fail
      obtain ⟨Wf, hWf, hY, hbW⟩ := hZ7.jput4 (Nat.le_refl _) w hB7 (.int .i64 v1) (.int .i64 v2) (.int .i64 v3) (.int .i64 v4)
      rw [← hWf]
      exact bodyPost_ret (results_row_tmp (p := 2) (u := 3) rfl _ _ w.heap.size _ _ _ rfl hY Tryd.underlying37 rfl cmd_info) rfl ⟨by rw [HN.out]; rfl, hbW⟩
    | false =>
      have HN : Hid (getR xs = none) := by unfold Hid; rw [HG.out, if_neg (fun h => by rw [hk] at h; cases h.2)]
      rw [hk] at hK
      unfold cmdV at hK
      simp only [Bool.false_eq_true, if_false] at hK
      clear HG hk he hE HS1 HS2 HS3 HS4 HV1 HV2 HV3 HV4
      go_wp2_with fail
      refine (hK _).mono ?_
      rintro r W7 ⟨rfl, hb7⟩
      have hZ7 := hZ5.below hb7
      have hB7 := hB5.trans (hb7.mono hB5.size)
      have hC7 := hC5.below hb7
      clear c0 c1 c2 c3 z0 z1 z2 z3 f0 f1 f2 f3 hK p6 p5
      obtain ⟨c0, c1, c2, c3⟩ := hC7.four
      obtain ⟨z0, z1, z2, z3⟩ := hZ7.four
      have f0 := hZ7.free 0
      have f1 := hZ7.free 1
      have f2 := hZ7.free 2
      have f3 := hZ7.free 3
      go_wp2_with fail
      obtain ⟨Wf, hWf, hY, hbW⟩ := hZ7.jput4 (Nat.le_refl _) w hB7 (.int .i64 0) (.int .i64 0) (.int .i64 0) (.int .i64 0)
      rw [← hWf]
      exact bodyPost_ret (results_row_tmp (p := 2) (u := 3) rfl _ _ w.heap.size _ _ _ rfl hY Tryd.underlying37 rfl cmd_info) rfl ⟨by rw [HN.out]; rfl, hbW⟩
  · have HN : Hid (getR xs = none) := by unfold Hid; rw [HG.out, if_neg (fun h => he h.1)]
    have hEb : (endR s4 != 0) = true := by simp [he]
    generalize endR s4 = E at *
    clear HG he hE HS1 HS2 HS3 HS4 HV1 HV2 HV3 HV4 hK
    go_wp2_with fail
    obtain ⟨Wf, hWf, hY, hbW⟩ := hZ5.jput4 (Nat.le_refl _) w hB5 (.int .i64 0) (.int .i64 0) (.int .i64 0) (.int .i64 0)
    rw [← hWf]
    exact bodyPost_ret (results_row_tmp (p := 2) (u := 3) rfl _ _ w.heap.size _ _ _ rfl hY Tryd.underlying37 rfl cmd_info) rfl ⟨by rw [HN.out]; rfl, hbW⟩

end Go.Proofs.YtigojnpjpagfjaaDoor.M

namespace Go.Proofs.YtigojnpjpagfjaaDoor.M
open Go.ChangeShapes Go.WideShapes Go.ChangeAt Go.RowKit

end Go.Proofs.YtigojnpjpagfjaaDoor.M

namespace Go.Proofs.YtigojnpjpagfjaaDoor.M
open Go.ChangeShapes Go.WideShapes Go.ChangeAt Go.RowKit

theorem cmd_lim {k n s e : Int} (h : cmdOk k n s e = true) : (1 ≤ k ∧ k ≤ 5) ∧ (0 ≤ n ∧ n ≤ 5) ∧ (0 ≤ s ∧ s ≤ 2) ∧ 1 ≤ e ∧ e ≤ 1099511627776 := by
  unfold cmdOk at h
  simp at h
  omega

theorem ow_lower {k : IntKind} {e : TypeId} {w : World} {B B' : Nat} {p : Option Addr} {n c : Nat} {xs : List Int} (h : Ow k e w B p n c xs) (hb : B' ≤ B) : Ow k e w B' p n c xs := by
  refine ⟨h.len, ?_⟩
  rcases h.own with h1 | h1
  · exact Or.inl h1
  · refine Or.inr ⟨h1.1, ?_⟩
    rcases h1.2 with h2 | ⟨g, cap, cur, hv, hg, r⟩
    · exact Or.inl h2
    · exact Or.inr ⟨g, cap, cur, hv, Nat.le_trans hb hg, r⟩

set_option maxRecDepth 20000 in
set_option maxHeartbeats 4000000 in
theorem lPut_no (k n s e : Int) (w : World) (h : cmdOk k n s e = false) :
    Calls Tryd.prog 26 #[.agg #[.int .i64 k, .int .i64 n, .int .i64 s, .int .i64 e]] w fun r w' => r = .returned (.tuple #[.slice none 0 0, .int .i64 120]) ∧ Below w.heap.size w w' := by
  have hba := below_alloc w (.cells #[.int .i64 k, .int .i64 n, .int .i64 s, .int .i64 e] 37)
  have hC := At.new 37 w #[.int .i64 k, .int .i64 n, .int .i64 s, .int .i64 e]
  obtain ⟨c0, c1, c2, c3⟩ := hC.four
  have g1 := lCheck_any k n s e (w.alloc (.cells #[.int .i64 k, .int .i64 n, .int .i64 s, .int .i64 e] 37))
  rw [h] at g1
  unfold cmdV at g1
  simp only [Bool.false_eq_true, if_false] at g1
  clear h
  go_enter Tryd.func26, Tryd.ntmps26
  go_wp2_with fail
  refine g1.mono ?_
  rintro r w1 ⟨rfl, hb1⟩
  clear g1
  go_wp2_with fail
  go_ret2
  exact ⟨rfl, hba.trans (hb1.mono hba.size)⟩

set_option maxRecDepth 20000 in
set_option maxHeartbeats 4000000 in
theorem lPut_ok (k n s e : Int) (w : World) (h : cmdOk k n s e = true) :
    Calls Tryd.prog 26 #[.agg #[.int .i64 k, .int .i64 n, .int .i64 s, .int .i64 e]] w fun r w' => ∃ v, r = .returned v ∧ ∃ p c, v = .tuple #[.slice p (putAll [k, n, s, e]).length c, .int .i64 0] ∧ Ow .u8 5 w' w.heap.size p (putAll [k, n, s, e]).length c (putAll [k, n, s, e]) ∧ Below w.heap.size w w' := by
  have hba := below_alloc w (.cells #[.int .i64 k, .int .i64 n, .int .i64 s, .int .i64 e] 37)
  have hC := At.new 37 w #[.int .i64 k, .int .i64 n, .int .i64 s, .int .i64 e]
  have g1 := lCheck_any k n s e (w.alloc (.cells #[.int .i64 k, .int .i64 n, .int .i64 s, .int .i64 e] 37))
  have hlim := cmd_lim h
  rw [h] at g1
  unfold cmdV at g1
  simp only [if_true] at g1
  have k1 : IntKind.u64.wrap k = k := by rw [IntKind.wrap_u64]; omega
  have k2 : IntKind.u64.wrap n = n := by rw [IntKind.wrap_u64]; omega
  have k3 : IntKind.u64.wrap s = s := by rw [IntKind.wrap_u64]; omega
  have k4 : IntKind.u64.wrap e = e := by rw [IntKind.wrap_u64]; omega
  have hWd : Wd [k, n, s, e] := by
    intro x hx
    simp only [List.mem_cons, List.not_mem_nil, or_false] at hx
    rcases hx with rfl | rfl | rfl | rfl <;> omega
  obtain ⟨c0, c1, c2, c3⟩ := hC.four
  obtain ⟨L, HL⟩ : ∃ L, Hid (putAll [k, n, s, e] = L) := ⟨_, rfl⟩
  rw [HL.out]
  clear h hlim
  go_enter Tryd.func26, Tryd.ntmps26
  go_wp2_with fail
  refine g1.mono ?_
  rintro r w1 ⟨rfl, hb1⟩
  have hB := hba.trans (hb1.mono hba.size)
  have hC1 := hC.below hb1
  clear g1 c0 c1 c2 c3 hC hba hb1
  obtain ⟨c0, c1, c2, c3⟩ := hC1.four
  have hb2 := below_alloc w1 (.cells #[.int .u64 k, .int .u64 n, .int .u64 s, .int .u64 e] 35)
  have hB2 := hB.trans (hb2.mono hB.size)
  have hR := Rd.four .u64 w1 35 k n s e
  have g2 := put_any none 0 0 [] _ 4 4 [k, n, s, e] _ (Rd.empty _ _ _ _ (fun _ => rfl)) hR hWd (by omega) (by omega)
  simp only [Nat.zero_add, List.nil_append] at g2
  rw [HL.out] at g2
  have hs := hB2.size
  clear hC1 hR hWd
  go_wp2_with fail
  refine g2.mono ?_
  rintro r w2 ⟨p2, c2', rfl, ho, hb3⟩
  clear g2
  go_wp2_with fail
  go_ret2
  exact ⟨_, rfl, _, _, rfl, ow_lower ho hs, hB2.trans (hb3.mono hs)⟩

end Go.Proofs.YtigojnpjpagfjaaDoor.M

namespace Go.Proofs.YtigojnpjpagfjaaDoor.M
open Go.ChangeShapes Go.WideShapes Go.ChangeAt Go.RowKit

/-- A chain behind a command. -/
def chR (k nd st : Int) (e : Int) (ms : List Mb) : CR :=
  if (k == 1) = true then cutR (fun m => m.n == nd) e ms else
  if (k == 5) = true then cutR (fun m => m.s == st) e ms else
  if (k == 2) = true then joinR e ms ⟨nd, st, false⟩ else
  if (k == 3) = true then againR e ms nd else readyR e ms nd

set_option maxRecDepth 20000 in
set_option maxHeartbeats 4000000 in
theorem change_any (k nd st ep : Int) (e : Int) (p : Option Addr) (n c : Nat) (ms : List Mb) (w : World) (hr : RdM w p n c ms) (hn : n ≤ 5864062014805) :
    Calls Tryd.prog 55 #[.agg #[.int .i64 e, .slice p n c], .agg #[.int .i64 k, .int .i64 nd, .int .i64 st, .int .i64 ep]] w fun r w' => ∃ v, r = .returned v ∧ Told w.heap.size w' v (chR k nd st e ms) ∧ Below w.heap.size w w' := by
  have hF := Gr.new2 w e p n c (.cells #[.int .i64 k, .int .i64 nd, .int .i64 st, .int .i64 ep] 37)
  have hb0 : Below w.heap.size w (((w.alloc (.cells #[.int .i64 e, .slice p n c] 28)).alloc (.cells #[.int .i64 k, .int .i64 nd, .int .i64 st, .int .i64 ep] 37)).alloc (.cells #[.int .i64 0, .slice none 0 0] 28)) := (((Below.refl _ _).alloc (Nat.le_refl _) _).alloc (by simp) _).alloc (by simp; omega) _
  have hr0 := hr.below hb0
  clear hr
  generalize hw : w.heap.size = b at *
  go_enter Tryd.func55, Tryd.ntmps55
  cases q0 : (k == 1) with
  | true =>
    have hX := Drop_any e p n c ms nd _ hr0 hn
    go_wp2_with fail
    generalize (((w.alloc (.cells #[.int .i64 e, .slice p n c] 28)).alloc (.cells #[.int .i64 k, .int .i64 nd, .int .i64 st, .int .i64 ep] 37)).alloc (.cells #[.int .i64 0, .slice none 0 0] 28)) = w0 at *
    refine hX.mono ?_
    rintro r w1 ⟨v, rfl, hT, hb1⟩
    have HT : Told w0.heap.size w1 v (chR k nd st e ms) := by
      unfold chR; rw [if_pos q0]
      exact hT
    obtain ⟨E, q, N, cc, K, rfl, hTp⟩ := HT.parts
    have hlt0 := hF.lt
    have hF1 := hF.below hb1
    have hB1 := hb0.trans (hb1.mono (by omega))
    clear hX hT HT hb0 hb1 hF
    have hF2 := hF1
    obtain ⟨a0, a1, b0, b1, f0, f1, lt, br⟩ := hF2
    go_wp2_with fail
    exact bodyPost_ret (results_chain (p := 4) (u := 5) rfl _ _ (b + 1 + 1) _ _ rfl (hF1.put0 _ _) (hF1.put1 _ _)) rfl ⟨_, rfl, (hTp (b + 1 + 1) _ _ (by omega)).lower (by omega), Gr.putB hB1 (show b ≤ b + 1 + 1 by omega) _ _⟩
  | false =>
    cases q1 : (k == 5) with
    | true =>
      have hX := DropSite_any e p n c ms st _ hr0 hn
      go_wp2_with fail
      generalize (((w.alloc (.cells #[.int .i64 e, .slice p n c] 28)).alloc (.cells #[.int .i64 k, .int .i64 nd, .int .i64 st, .int .i64 ep] 37)).alloc (.cells #[.int .i64 0, .slice none 0 0] 28)) = w0 at *
      refine hX.mono ?_
      rintro r w1 ⟨v, rfl, hT, hb1⟩
      have HT : Told w0.heap.size w1 v (chR k nd st e ms) := by
        unfold chR; rw [if_neg (by rw [q0]; decide), if_pos q1]
        exact hT
      obtain ⟨E, q, N, cc, K, rfl, hTp⟩ := HT.parts
      have hlt0 := hF.lt
      have hF1 := hF.below hb1
      have hB1 := hb0.trans (hb1.mono (by omega))
      clear hX hT HT hb0 hb1 hF
      have hF2 := hF1
      obtain ⟨a0, a1, b0, b1, f0, f1, lt, br⟩ := hF2
      go_wp2_with fail
      exact bodyPost_ret (results_chain (p := 4) (u := 5) rfl _ _ (b + 1 + 1) _ _ rfl (hF1.put0 _ _) (hF1.put1 _ _)) rfl ⟨_, rfl, (hTp (b + 1 + 1) _ _ (by omega)).lower (by omega), Gr.putB hB1 (show b ≤ b + 1 + 1 by omega) _ _⟩
    | false =>
      cases q2 : (k == 2) with
      | true =>
        have hX := Join_any e p n c ms ⟨nd, st, false⟩ _ hr0 hn
        go_wp2_with fail
        generalize (((w.alloc (.cells #[.int .i64 e, .slice p n c] 28)).alloc (.cells #[.int .i64 k, .int .i64 nd, .int .i64 st, .int .i64 ep] 37)).alloc (.cells #[.int .i64 0, .slice none 0 0] 28)) = w0 at *
        refine hX.mono ?_
        rintro r w1 ⟨v, rfl, hT, hb1⟩
        have HT : Told w0.heap.size w1 v (chR k nd st e ms) := by
          unfold chR; rw [if_neg (by rw [q0]; decide), if_neg (by rw [q1]; decide), if_pos q2]
          exact hT
        obtain ⟨E, q, N, cc, K, rfl, hTp⟩ := HT.parts
        have hlt0 := hF.lt
        have hF1 := hF.below hb1
        have hB1 := hb0.trans (hb1.mono (by omega))
        clear hX hT HT hb0 hb1 hF
        have hF2 := hF1
        obtain ⟨a0, a1, b0, b1, f0, f1, lt, br⟩ := hF2
        go_wp2_with fail
        exact bodyPost_ret (results_chain (p := 4) (u := 5) rfl _ _ (b + 1 + 1) _ _ rfl (hF1.put0 _ _) (hF1.put1 _ _)) rfl ⟨_, rfl, (hTp (b + 1 + 1) _ _ (by omega)).lower (by omega), Gr.putB hB1 (show b ≤ b + 1 + 1 by omega) _ _⟩
      | false =>
        cases q3 : (k == 3) with
        | true =>
          have hX := Again_any e p n c ms nd _ hr0 hn
          go_wp2_with fail
          generalize (((w.alloc (.cells #[.int .i64 e, .slice p n c] 28)).alloc (.cells #[.int .i64 k, .int .i64 nd, .int .i64 st, .int .i64 ep] 37)).alloc (.cells #[.int .i64 0, .slice none 0 0] 28)) = w0 at *
          refine hX.mono ?_
          rintro r w1 ⟨v, rfl, hT, hb1⟩
          have HT : Told w0.heap.size w1 v (chR k nd st e ms) := by
            unfold chR; rw [if_neg (by rw [q0]; decide), if_neg (by rw [q1]; decide), if_neg (by rw [q2]; decide), if_pos q3]
            exact hT
          obtain ⟨E, q, N, cc, K, rfl, hTp⟩ := HT.parts
          have hlt0 := hF.lt
          have hF1 := hF.below hb1
          have hB1 := hb0.trans (hb1.mono (by omega))
          clear hX hT HT hb0 hb1 hF
          have hF2 := hF1
          obtain ⟨a0, a1, b0, b1, f0, f1, lt, br⟩ := hF2
          go_wp2_with fail
          exact bodyPost_ret (results_chain (p := 4) (u := 5) rfl _ _ (b + 1 + 1) _ _ rfl (hF1.put0 _ _) (hF1.put1 _ _)) rfl ⟨_, rfl, (hTp (b + 1 + 1) _ _ (by omega)).lower (by omega), Gr.putB hB1 (show b ≤ b + 1 + 1 by omega) _ _⟩
        | false =>
          have hX := Ready_any e p n c ms nd _ hr0 hn
          go_wp2_with fail
          generalize (((w.alloc (.cells #[.int .i64 e, .slice p n c] 28)).alloc (.cells #[.int .i64 k, .int .i64 nd, .int .i64 st, .int .i64 ep] 37)).alloc (.cells #[.int .i64 0, .slice none 0 0] 28)) = w0 at *
          refine hX.mono ?_
          rintro r w1 ⟨v, rfl, hT, hb1⟩
          have HT : Told w0.heap.size w1 v (chR k nd st e ms) := by
            unfold chR; rw [if_neg (by rw [q0]; decide), if_neg (by rw [q1]; decide), if_neg (by rw [q2]; decide), if_neg (by rw [q3]; decide)]
            exact hT
          obtain ⟨E, q, N, cc, K, rfl, hTp⟩ := HT.parts
          have hlt0 := hF.lt
          have hF1 := hF.below hb1
          have hB1 := hb0.trans (hb1.mono (by omega))
          clear hX hT HT hb0 hb1 hF
          have hF2 := hF1
          obtain ⟨a0, a1, b0, b1, f0, f1, lt, br⟩ := hF2
          go_wp2_with fail
          exact bodyPost_ret (results_chain (p := 4) (u := 5) rfl _ _ (b + 1 + 1) _ _ rfl (hF1.put0 _ _) (hF1.put1 _ _)) rfl ⟨_, rfl, (hTp (b + 1 + 1) _ _ (by omega)).lower (by omega), Gr.putB hB1 (show b ≤ b + 1 + 1 by omega) _ _⟩

end Go.Proofs.YtigojnpjpagfjaaDoor.M

namespace Go.Proofs.YtigojnpjpagfjaaDoor.M
open Go.ChangeShapes Go.WideShapes Go.ChangeAt Go.RowKit

/-- A chain as it lies in memory. -/
structure HE where
  e : Int
  p : Option Addr
  n : Nat
  c : Nat
  ms : List Mb

def HE.cs (h : HE) : List Value := [.int .i64 h.e, .slice h.p h.n h.c]

def HE.rd (w : World) (g r : Nat) (h : HE) : Prop := RdM w h.p h.n h.c h.ms ∧ ∀ a, h.p = some a → 0 < h.n → a.block ≠ g ∧ a.block ≠ r

def cellsH (H : List HE) : List Value := H.flatMap HE.cs

theorem cellsH_len : ∀ H : List HE, (cellsH H).length = H.length * 2
  | [] => rfl
  | h :: H => by
    have := cellsH_len H
    unfold cellsH at *
    rw [List.flatMap_cons, List.length_append, this, List.length_cons]
    show 2 + H.length * 2 = _
    omega

/-- All that lay in w, but for blocks g and r, lies as it did. -/
structure Ex2 (g r : Nat) (w w' : World) : Prop where
  os : w'.os = w.os
  tape : w'.tape = w.tape
  output : w'.output = w.output
  size : w.heap.size ≤ w'.heap.size
  block : ∀ k, k < w.heap.size → k ≠ g → k ≠ r → w'.heap[k]? = w.heap[k]?

theorem Ex2.refl (g r : Nat) (w : World) : Ex2 g r w w := ⟨rfl, rfl, rfl, Nat.le_refl _, fun _ _ _ _ => rfl⟩

theorem Ex2.trans {g r r' : Nat} {a b c : World} (h : Ex2 g r a b) (k : Ex2 g r' b c) (hr : r' = r ∨ a.heap.size ≤ r') : Ex2 g r a c :=
  ⟨k.os.trans h.os, k.tape.trans h.tape, k.output.trans h.output, Nat.le_trans h.size k.size, fun i hi hg h2 => (k.block i (Nat.lt_of_lt_of_le hi h.size) hg (fun e => by rcases hr with e1 | e1 <;> omega)).trans (h.block i hi hg h2)⟩

theorem Ex2.of_below {g r : Nat} {w w' : World} (h : Below w.heap.size w w') : Ex2 g r w w' := ⟨h.os, h.tape, h.output, h.size, fun k hk _ _ => h.block k hk⟩

theorem Ex2.below {g r B : Nat} {w w' : World} (h : Ex2 g r w w') (hg : B ≤ g) (hr : B ≤ r) (hB : B ≤ w.heap.size) : Below B w w' :=
  ⟨h.os, h.tape, h.output, h.size, fun k hk => h.block k (by omega) (by omega) (by omega)⟩

theorem Ex2.setG {g r : Nat} {w w' : World} (h : Ex2 g r w w') (j : Nat) (v : Value) : Ex2 g r w (w'.setCell ⟨g, j, none⟩ v) :=
  ⟨h.os, h.tape, h.output, by simpa [World.setCell] using h.size, fun k hk hg hr => (Below.heap_setCell _ _ _ _ (fun e => hg (by rw [e]))).trans (h.block k hk hg hr)⟩

theorem Ex2.grown {g r : Nat} {w w' w'' : World} (h : Ex2 g r w w') {o : Option Nat} (k : w'.grownBy w'' o) (ho : ∀ x, o = some x → x = r) : Ex2 g r w w'' :=
  ⟨k.os.trans h.os, k.tape.trans h.tape, k.output.trans h.output, Nat.le_trans h.size k.size, fun i hi hg hr => (k.block i (Nat.lt_of_lt_of_le hi h.size) (fun e => hr (ho i e.symm))).trans (h.block i hi hg hr)⟩

theorem RdM.ex2 {g r : Nat} {w w' : World} {p : Option Addr} {n c : Nat} {ms : List Mb} (h : RdM w p n c ms) (hx : Ex2 g r w w') (hf : ∀ a, p = some a → 0 < n → a.block ≠ g ∧ a.block ≠ r) : RdM w' p n c ms := by
  refine ⟨h.len, h.cap, h.nil, fun hn => ?_⟩
  obtain ⟨b, o, hp, hc⟩ := h.cells hn
  refine ⟨b, o, hp, fun i hi => ?_⟩
  obtain ⟨f1, f2⟩ := hf _ hp hn
  have hb : w'.heap[b]? = w.heap[b]? := hx.block b (World.block_lt_of_cell? _ _ (hc 0 hn).1) f1 f2
  obtain ⟨h1, h2, h3⟩ := hc i hi
  exact ⟨(World.cell?_of_block hb).trans h1, (World.cell?_of_block hb).trans h2, (World.cell?_of_block hb).trans h3⟩

theorem HE.rd.ex2 {g r : Nat} {w w' : World} {h : HE} (hh : h.rd w g r) (hx : Ex2 g r w w') : h.rd w' g r := ⟨hh.1.ex2 hx hh.2, hh.2⟩

/-- A ledger in block g, its row of chains in block r. -/
structure LB (w : World) (g r bc : Nat) (x : HE) (at_ : Int) (H : List HE) : Prop where
  blk : At 91 w g #[.slice (some ⟨r, 0, none⟩) H.length bc, .int .i64 x.e, .slice x.p x.n x.c, .int .i64 at_]
  row : w.ownsRow 0 28 2 (.slice (some ⟨r, 0, none⟩) H.length bc) H.length (cellsH H)
  ne : r ≠ g
  now : x.rd w g r
  old : ∀ h ∈ H, h.rd w g r
  pos : 0 < H.length

theorem LB.lr {w : World} {g r bc : Nat} {x : HE} {at_ : Int} {H : List HE} (h : LB w g r bc x at_ H) : r < w.heap.size := (World.ownsRow.lt h.row r rfl).2

theorem LB.below {w w' : World} {g r bc : Nat} {x : HE} {at_ : Int} {H : List HE} (h : LB w g r bc x at_ H) (hb : Below w.heap.size w w') : LB w' g r bc x at_ H := by
  have hx : Ex2 g r w w' := Ex2.of_below hb
  refine ⟨h.blk.below hb, ⟨h.row.1, ?_⟩, h.ne, h.now.ex2 hx, fun y hy => (h.old y hy).ex2 hx, h.pos⟩
  rcases h.row.2 with h2 | ⟨g', cap, cur, hv, hg, hh, r⟩
  · exact Or.inl h2
  · exact Or.inr ⟨g', cap, cur, hv, hg, by rw [hb.block g' (Array.getElem?_eq_some_iff.1 hh).1]; exact hh, r⟩

/-- Behind a change that keeps both blocks. -/
theorem LB.kept {w w' : World} {g r bc : Nat} {x : HE} {at_ : Int} {H : List HE} (h : LB w g r bc x at_ H) {g2 r2 : Nat} (hx : Ex2 g2 r2 w w') (h1 : g ≠ g2 ∧ g ≠ r2) (h2 : r ≠ g2 ∧ r ≠ r2) (h3 : ∀ y ∈ x :: H, ∀ a, y.p = some a → 0 < y.n → a.block ≠ g2 ∧ a.block ≠ r2) : LB w' g r bc x at_ H := by
  refine ⟨?_, ⟨h.row.1, ?_⟩, h.ne, ⟨h.now.1.ex2 hx (h3 x (List.mem_cons_self ..)), h.now.2⟩, fun y hy => ⟨(h.old y hy).1.ex2 hx (h3 y (List.mem_cons_of_mem _ hy)), (h.old y hy).2⟩, h.pos⟩
  · unfold At
    rw [hx.block g h.blk.lt h1.1 h1.2]
    exact h.blk
  · rcases h.row.2 with h4 | ⟨g', cap, cur, hv, hg, hh, r3⟩
    · exact Or.inl h4
    · have : r = g' := by injection hv with e1; injection e1 with e1; injection e1
      subst this
      exact Or.inr ⟨r, cap, cur, hv, hg, by rw [hx.block r h.lr h2.1 h2.2]; exact hh, r3⟩

set_option maxRecDepth 20000 in
theorem made_yes (g r bc : Nat) (x : HE) (at_ : Int) (H : List HE) (w : World) (h : LB w g r bc x at_ H) :
    Calls Tryd.prog 49 #[.pointer (some ⟨g, 0, none⟩)] w fun o w' => o = .returned (.bool true) ∧ w' = w := by
  obtain ⟨q0, q1, q2, q3⟩ := h.blk.four
  have hp : (0 : Int) < (H.length : Int) := by have := h.pos; omega
  have hd : Hid (decide (0 < H.length) = true) := decide_eq_true h.pos
  clear h
  go_enter Tryd.func49, Tryd.ntmps49
  go_wp2_with fail
  go_ret
  exact ⟨ret_bool hd.out, rfl⟩

set_option maxRecDepth 20000 in
theorem At_yes (g r bc : Nat) (x : HE) (at_ : Int) (H : List HE) (w : World) (h : LB w g r bc x at_ H) :
    Calls Tryd.prog 28 #[.pointer (some ⟨g, 0, none⟩)] w fun o w' => o = .returned (.int .i64 at_) ∧ w' = w := by
  obtain ⟨q0, q1, q2, q3⟩ := h.blk.four
  have hm := made_yes g r bc x at_ H w h
  clear h
  go_enter Tryd.func28, Tryd.ntmps28
  go_wp2_with fail
  refine hm.mono ?_
  rintro o w1 ⟨rfl, hw⟩
  subst hw
  go_wp2_with fail
  go_ret
  exact ⟨rfl, rfl⟩

theorem results_chain1 {fn : Func} {p : Tmp} (h : fn.results = #[.cell p 28]) (tmps : Array Value) (w : World) (g : Nat) (x y : Value) (hp : tmps.getD p undef = .pointer (some ⟨g, 0, none⟩)) (c0 : w.cell? ⟨g, 0, none⟩ = some x) (c1 : w.cell? ⟨g, 1, none⟩ = some y) :
    (results fn tmps).run Tryd.prog w = .ok (.agg #[x, y]) w := by
  have hp' : tmps[p]?.getD undef = .pointer (some ⟨g, 0, none⟩) := by simpa using hp
  have hl := run_loadVar_mid (P := Tryd.prog) w g 0 28 [x, y] _ (fun j v hj => by
    rw [Nat.zero_add]
    match j, hj with
    | 0, hj => cases hj; exact c0
    | 1, hj => cases hj; exact c1) Tryd.underlying28 rfl sizeC
  simp [results, h, hp', asAddr, hl]

theorem two0 {W : World} {x : Nat} {a u v : Value} (h : W.cell? ⟨x, 0, none⟩ = some a) : ((W.setCell ⟨x, 0, none⟩ u).setCell ⟨x, 1, none⟩ v).cell? ⟨x, 0, none⟩ = some u := by
  rw [World.cell?_setCell_other (h := by simp), World.cell?_setCell_same (h := h)]

theorem two1 {W : World} {x : Nat} {a u v : Value} (h : W.cell? ⟨x, 1, none⟩ = some a) : ((W.setCell ⟨x, 0, none⟩ u).setCell ⟨x, 1, none⟩ v).cell? ⟨x, 1, none⟩ = some v := by
  rw [World.cell?_setCell_same (h := by rw [World.cell?_setCell_other (h := by simp)]; exact h)]

theorem Bl.out {w W : World} (h : Bl w W) : Below w.heap.size w W := h

set_option linter.unusedSimpArgs false in
set_option maxRecDepth 20000 in
set_option maxHeartbeats 4000000 in
theorem copied_any (e : Int) (p : Option Addr) (n c : Nat) (ms : List Mb) (w : World) (hr : RdM w p n c ms) (hn : n ≤ 5864062014805) :
    Calls Tryd.prog 50 #[.agg #[.int .i64 e, .slice p n c]] w fun o w' => ∃ q d, o = .returned (.agg #[.int .i64 e, .slice q n d]) ∧ (∀ a, q = some a → 0 < n → w.heap.size ≤ a.block) ∧ RdM w' q n d ms ∧ Below w.heap.size w w' := by
  have hb0 : Below w.heap.size w ((w.alloc (.cells #[.int .i64 e, .slice p n c] 28)).alloc (.cells #[.int .i64 0, .slice none 0 0] 28)) := ((Below.refl _ _).alloc (Nat.le_refl _) _).alloc (by simp) _
  have k0 : ((w.alloc (.cells #[.int .i64 e, .slice p n c] 28)).alloc (.cells #[.int .i64 0, .slice none 0 0] 28)).heap[w.heap.size]? = some (.cells #[.int .i64 e, .slice p n c] 28) := by
    rw [heap_alloc_old (w.alloc _) _ (by simp)]
    exact heap_alloc_new _ _
  have k1 : ((w.alloc (.cells #[.int .i64 e, .slice p n c] 28)).alloc (.cells #[.int .i64 0, .slice none 0 0] 28)).heap[w.heap.size + 1]? = some (.cells #[.int .i64 0, .slice none 0 0] 28) := by
    have := heap_alloc_new (w.alloc (.cells #[.int .i64 e, .slice p n c] 28)) (.cells #[.int .i64 0, .slice none 0 0] 28)
    simpa using this
  have hr0 := hr.below hb0
  have hl := hr.len
  have hsz : ((w.alloc (.cells #[.int .i64 e, .slice p n c] 28)).alloc (.cells #[.int .i64 0, .slice none 0 0] 28)).heap.size = w.heap.size + 2 := by simp
  clear hr
  go_enter Tryd.func50, Tryd.ntmps50
  go_wp2_with fail
  generalize hw0 : ((w.alloc (.cells #[.int .i64 e, .slice p n c] 28)).alloc (.cells #[.int .i64 0, .slice none 0 0] 28)) = w0 at *
  generalize hb : w.heap.size = b at *
  clear hw0
  have hS0 : Bl w0 w0.drew := (Below.refl _ _).drew
  refine wp_region_det [0, 1, 2, 3, 5] (Bl w0) (Bl w0) (by kernel_rfl) hS0 ?_
  refine wpDet_take ?vA0 (Bl.stays w0) (fun _ h => h) (i := 0) rfl (by kernel_rfl) (by kernel_rfl) (by kernel_rfl) (by kernel_rfl) (fun _ _ _ h => h) (Gives.value (by rfl) ?yA0) ?rA0
  case yA0 => (intro w' hSw; have za0 := (cell_row (hSw.block b (by omega) ▸ k0) (j := 0) rfl); have za1 := (cell_row (hSw.block b (by omega) ▸ k0) (j := 1) rfl); go_simp; try with_reducible rfl)
  (try simp only [Act.put, List.getElem_toArray, List.getElem_cons_zero, List.getElem_cons_succ, List.setIfInBounds_toArray, List.set_cons_zero, List.set_cons_succ])
  refine wpDet_take ?vA1 (Bl.stays w0) (fun _ h => h) (i := 1) rfl (by kernel_rfl) (by kernel_rfl) (by kernel_rfl) (by kernel_rfl) (fun _ _ _ h => h) (Gives.value (by rfl) ?yA1) ?rA1
  case yA1 => (intro w' hSw; have za0 := (cell_row (hSw.block b (by omega) ▸ k0) (j := 0) rfl); have za1 := (cell_row (hSw.block b (by omega) ▸ k0) (j := 1) rfl); go_simp; try with_reducible rfl)
  (try simp only [Act.put, List.getElem_toArray, List.getElem_cons_zero, List.getElem_cons_succ, List.setIfInBounds_toArray, List.set_cons_zero, List.set_cons_succ])
  refine wpDet_take ?vA2 (Bl.stays w0) (fun _ h => h) (i := 2) rfl (by kernel_rfl) (by kernel_rfl) (by kernel_rfl) (by kernel_rfl) (fun _ _ _ h => h) (Gives.value (by rfl) ?yA2) ?rA2
  case yA2 => (intro w' hSw; have za0 := (cell_row (hSw.block b (by omega) ▸ k0) (j := 0) rfl); have za1 := (cell_row (hSw.block b (by omega) ▸ k0) (j := 1) rfl); go_simp; try with_reducible rfl)
  (try simp only [Act.put, List.getElem_toArray, List.getElem_cons_zero, List.getElem_cons_succ, List.setIfInBounds_toArray, List.set_cons_zero, List.set_cons_succ])
  refine wpDet_take ?vA3 (Bl.stays w0) (fun _ h => h) (i := 3) rfl (by kernel_rfl) (by kernel_rfl) (by kernel_rfl) (by kernel_rfl) (fun _ _ _ h => h) (Gives.value (by rfl) ?yA3) ?rA3
  case yA3 => (intro w' hSw; have za0 := (cell_row (hSw.block b (by omega) ▸ k0) (j := 0) rfl); have za1 := (cell_row (hSw.block b (by omega) ▸ k0) (j := 1) rfl); go_simp; try with_reducible rfl)
  (try simp only [Act.put, List.getElem_toArray, List.getElem_cons_zero, List.getElem_cons_succ, List.setIfInBounds_toArray, List.set_cons_zero, List.set_cons_succ])
  refine wpDet_ready (rs := [4]) (by kernel_rfl) (by simp) (AllDet.cons rfl (fun V hV K hK => ?_) AllDet.nil)
  rw [if_pos (by rfl)]
  have hCv := cloneM_any p n c ms V (hr0.below hV) (by omega)
  refine wp_enterE 16 #[.slice p n c] (by first | (go_simp; done) | (go_simp; rfl)) (fun v W => Copy W V.heap.size n ms v ∧ Below V.heap.size V W) (hCv.mono fun e' w' hh => by obtain ⟨v, h1, h2, h3⟩ := hh; exact ⟨v, h1, h2, h3⟩) ?_
  rintro v7 V7 ⟨hcp, hb7⟩
  obtain ⟨q, d, rfl, hq, hrq⟩ := hcp.tell hl
  have hVs : w0.heap.size ≤ V.heap.size := (Bl.out hV).size
  refine hK.out (Br w0 q n d ms) _ _ (Br.stays w0 _ _ _ _) (fun _ _ h => h.1) ⟨Bl.stays w0 V V7 hV hb7, hrq⟩ ?_
  have hqb : ∀ a, q = some a → 0 < n → b + 2 ≤ a.block := fun a ha h0 => by have := hq a ha h0; omega
  clear hK K hCv hcp hb7 hV hrq hq hVs
  (try simp only [Act.put, List.getElem_toArray, List.getElem_cons_zero, List.getElem_cons_succ, List.setIfInBounds_toArray, List.set_cons_zero, List.set_cons_succ])
  refine wpDet_take ?vB5 (Br.stays w0 _ _ _ _) (fun _ h => h.1) (i := 5) rfl (by kernel_rfl) (by kernel_rfl) (by kernel_rfl) (by kernel_rfl) (fun _ _ _ h => h) (Gives.value (by rfl) ?yB5) ?rB5
  case yB5 => (intro w' hSw; go_simp; try with_reducible rfl)
  (try simp only [Act.put, List.getElem_toArray, List.getElem_cons_zero, List.getElem_cons_succ, List.setIfInBounds_toArray, List.set_cons_zero, List.set_cons_succ])
  refine wpDet_ready (rs := [6]) (by kernel_rfl) (by simp) (AllDet.cons rfl (fun V hV K hK => ?_) AllDet.nil)
  rw [if_pos (by rfl)]
  have hrw : V.heap[b + 1]? = some (.cells #[.int .i64 0, .slice none 0 0] 28) := ((Bl.out hV.1).block (b + 1) (by omega)).trans k1
  have y0 := cell_row hrw (j := 0) (v := .int .i64 0) rfl
  have y1 := cell_row hrw (j := 1) (v := .slice none 0 0) rfl
  have g0 := frozen_of_row V (b + 1) 0 _ _ hrw
  have g1 := frozen_of_row V (b + 1) 1 _ _ hrw
  have hth : V.there (b + 1) 0 2 := fun j hj => by rw [Nat.zero_add]; match j, hj with | 0, _ => exact ⟨by rw [y0]; rfl, g0⟩ | 1, _ => exact ⟨by rw [y1]; rfl, g1⟩
  refine wp_store_mid 28 _ _ rfl (b + 1) 0 #[.int .i64 e, .slice q n d] rfl rfl hth sizeC (one2 _ _ _ _) ?_
  have hBV : Below b w0 V := (Bl.out hV.1).mono (by omega)
  have hz : Bz b w0 (b + 1) e q n d ms ((V.setCell ⟨b + 1, 0, none⟩ (.int .i64 e)).setCell ⟨b + 1, 1, none⟩ (.slice q n d)) := ⟨Gr.putB hBV (by omega) _ _, hV.2.put _ _ (fun a ha h0 => by have := hqb a ha h0; omega), two0 y0, two1 y1, by have := (Bl.out hV.1).size; simp; omega⟩
  refine hK.out (Bz b w0 (b + 1) e q n d ms) _ _ (Bz.stays _ _ _ _ _ _ _ _) (no_lean (by kernel_rfl)) hz ?_
  clear hK K hV hth hz y0 y1 g0 g1 hrw hBV
  (try simp only [Act.put, List.getElem_toArray, List.getElem_cons_zero, List.getElem_cons_succ, List.setIfInBounds_toArray, List.set_cons_zero, List.set_cons_succ])
  refine wpDet_done (by kernel_rfl) (fun W3 hV => ?_) _
  obtain ⟨hb3, rq, z0, z1, hs3⟩ := hV
  go_wp2_with fail
  exact bodyPost_ret (results_chain1 (p := 2) rfl _ _ (b + 1) _ _ rfl z0 z1) rfl ⟨q, d, rfl, fun a ha h0 => by have := hqb a ha h0; omega, rq, by rw [hb]; exact hb0.trans hb3⟩

set_option maxRecDepth 20000 in
set_option maxHeartbeats 4000000 in
theorem Chain_yes (g r bc : Nat) (x : HE) (at_ : Int) (H : List HE) (w : World) (h : LB w g r bc x at_ H) (hn : x.n ≤ 5864062014805) :
    Calls Tryd.prog 24 #[.pointer (some ⟨g, 0, none⟩)] w fun o w' => ∃ q d, o = .returned (.agg #[.int .i64 x.e, .slice q x.n d]) ∧ (∀ a, q = some a → 0 < x.n → w.heap.size ≤ a.block) ∧ RdM w' q x.n d x.ms ∧ Below w.heap.size w w' := by
  have hba := below_alloc w (.cells #[.int .i64 0, .slice none 0 0] 28)
  have hZ := At.new 28 w #[.int .i64 0, .slice none 0 0]
  have hL := h.below hba
  have hm := made_yes g r bc x at_ H _ hL
  have hc := copied_any x.e x.p x.n x.c x.ms _ hL.now.1 hn
  obtain ⟨q0, q1, q2, q3⟩ := hL.blk.four
  have hsz : (w.alloc (.cells #[.int .i64 0, .slice none 0 0] 28)).heap.size = w.heap.size + 1 := by simp
  obtain ⟨e, p, n, c, ms⟩ := x
  dsimp only at *
  clear h hL
  go_enter Tryd.func24, Tryd.ntmps24
  go_wp2_with fail
  refine hm.mono ?_
  rintro o w1 ⟨rfl, hw⟩
  subst hw
  go_wp2_with fail
  refine hc.mono ?_
  rintro o w2 ⟨q, d, rfl, hq, hr, hb2⟩
  have hZ2 := hZ.below hb2
  obtain ⟨z0, z1⟩ := hZ2.two
  have f0 := hZ2.free 0
  have f1 := hZ2.free 1
  have hB2 := hba.trans (hb2.mono hba.size)
  have hqn : ∀ a, q = some a → 0 < n → w.heap.size + 1 ≤ a.block := fun a ha h0 => by have := hq a ha h0; omega
  clear hm hc hq q0 q1 q2 q3
  go_wp2_with fail
  exact bodyPost_ret (results_chain1 (p := 2) rfl _ _ w.heap.size _ _ rfl (two0 z0) (two1 z1)) rfl ⟨q, d, rfl, fun a ha h0 => by have := hqn a ha h0; omega, hr.put _ _ (fun a ha h0 => by have := hqn a ha h0; omega), Gr.putB hB2 (Nat.le_refl _) _ _⟩

end Go.Proofs.YtigojnpjpagfjaaDoor.M

namespace Go.Proofs.YtigojnpjpagfjaaDoor.M
open Go.ChangeShapes Go.WideShapes Go.ChangeAt Go.RowKit

/-- A changed chain's parts. -/
def CRe : CR → Int
  | .error _ => 0
  | .ok (e, _) => e
def CRm : CR → List Mb
  | .error _ => []
  | .ok (_, ms) => ms
def CRk : CR → Int
  | .error k => k
  | .ok _ => 0

theorem Told.rd {B : Nat} {w : World} {v : Value} {R : CR} (h : Told B w v R) : ∃ q c, v = .tuple #[.agg #[.int .i64 (CRe R), .slice q (CRm R).length c], .int .i64 (CRk R)] ∧ (∀ a, q = some a → 0 < (CRm R).length → B ≤ a.block) ∧ RdM w q (CRm R).length c (CRm R) := by
  match R, h with
  | .error k, h => exact ⟨none, 0, h, fun _ _ h => absurd h (Nat.lt_irrefl _), rfl, Nat.le_refl _, fun _ => rfl, fun h => absurd h (Nat.lt_irrefl _)⟩
  | .ok (e, ms), ⟨q, c, h1, h3, h2⟩ => exact ⟨q, c, h1, h3, h2⟩

theorem cutR_err {pr : Mb → Bool} {e k : Int} {ms : List Mb} (h : cutR pr e ms = .error k) : k ≠ 0 := by
  unfold cutR at h
  repeat' split at h
  all_goals first | (cases h; done) | (injection h with h; omega)

theorem joinR_err {m : Mb} {e k : Int} {ms : List Mb} (h : joinR e ms m = .error k) : k ≠ 0 := by
  unfold joinR at h
  repeat' split at h
  all_goals first | (cases h; done) | (injection h with h; omega)

theorem againR_err {nd e k : Int} {ms : List Mb} (h : againR e ms nd = .error k) : k ≠ 0 := by
  unfold againR at h
  repeat' split at h
  all_goals first | (cases h; done) | (injection h with h; omega)

theorem readyR_err {nd e k : Int} {ms : List Mb} (h : readyR e ms nd = .error k) : k ≠ 0 := by
  unfold readyR at h
  repeat' split at h
  all_goals first | (cases h; done) | (injection h with h; omega)

theorem chR_err {k nd st e er : Int} {ms : List Mb} (h : chR k nd st e ms = .error er) : er ≠ 0 := by
  unfold chR at h
  repeat' split at h
  · exact cutR_err h
  · exact cutR_err h
  · exact joinR_err h
  · exact againR_err h
  · exact readyR_err h

/-- A ledger in plain words. -/
structure PL where
  e : Int
  ms : List Mb
  at_ : Int
  H : List (Int × List Mb)

/-- .. behind a command that may change it. -/
def PL.ch (s : PL) (i : Int) : CR → Int × PL
  | .error er => (er, { s with at_ := i })
  | .ok (e', ms') => (0, ⟨e', ms', i, if s.e < e' then s.H ++ [(e', ms')] else s.H⟩)

/-- .. behind a command. -/
def PL.cmd (s : PL) (i : Int) : Option (Int × Int × Int × Int) → Int × PL
  | none => (120, { s with at_ := i })
  | some (k, nd, st, ep) => if ep = s.e then s.ch i (chR k nd st s.e s.ms) else (150, { s with at_ := i })

/-- What Apply answers, and what the ledger is then. -/
def PL.app (s : PL) (i : Int) (xs : List Int) : Int × PL :=
  if i = s.at_ + 1 ∧ i ≤ 1099511627776 then (if xs = [] then (0, { s with at_ := i }) else s.cmd i (getR xs)) else (90, s)

def HE.ch (h : HE) : Int × List Mb := (h.e, h.ms)

/-- A ledger in block g that is this in plain words. -/
def LP (w : World) (g r : Nat) (s : PL) : Prop := ∃ bc x H, LB w g r bc x s.at_ H ∧ x.ch = (s.e, s.ms) ∧ H.map HE.ch = s.H

theorem LP.below {w w' : World} {g r : Nat} {s : PL} (h : LP w g r s) (hb : Below w.heap.size w w') : LP w' g r s := by
  obtain ⟨bc, x, H, h1, h2⟩ := h
  exact ⟨bc, x, H, h1.below hb, h2⟩

/-- A store into the ledger's own block. -/
theorem LB.setg {w w' : World} {g r bc : Nat} {x x' : HE} {at_ at' : Int} {H : List HE} (h : LB w g r bc x at_ H) (hx : Ex g w w')
    (hA : At 91 w' g #[.slice (some ⟨r, 0, none⟩) H.length bc, .int .i64 x'.e, .slice x'.p x'.n x'.c, .int .i64 at']) (hn : x'.rd w' g r) : LB w' g r bc x' at' H := by
  have h2 : Ex2 g r w w' := ⟨hx.os, hx.tape, hx.output, hx.size, fun k hk hg _ => hx.block k hk hg⟩
  refine ⟨hA, ⟨h.row.1, ?_⟩, h.ne, hn, fun y hy => (h.old y hy).ex2 h2, h.pos⟩
  rcases h.row.2 with h4 | ⟨g', cap, cur, hv, hg, hh, r3⟩
  · exact Or.inl h4
  · have : r = g' := by injection hv with e1; injection e1 with e1; injection e1
    subst this
    exact Or.inr ⟨r, cap, cur, hv, hg, by rw [hx.block r h.lr h.ne]; exact hh, r3⟩

theorem LB.setAt {w : World} {g r bc : Nat} {x : HE} {at_ : Int} {H : List HE} (h : LB w g r bc x at_ H) (i : Int) : LB (w.setCell ⟨g, 3, none⟩ (.int .i64 i)) g r bc x i H := by
  have he : Ex g w (w.setCell ⟨g, 3, none⟩ (.int .i64 i)) := (Ex.refl _ _).setCell 3 _
  refine h.setg he ?_ (h.now.ex2 ⟨he.os, he.tape, he.output, he.size, fun k hk hg _ => he.block k hk hg⟩)
  have := h.blk
  unfold At at *
  exact heap_setCell_same w g 3 _ _ _ this

theorem LB.setNow {w : World} {g r bc : Nat} {x x' : HE} {at_ : Int} {H : List HE} (h : LB w g r bc x at_ H) (hx : x'.rd w g r) : LB ((w.setCell ⟨g, 1, none⟩ (.int .i64 x'.e)).setCell ⟨g, 2, none⟩ (.slice x'.p x'.n x'.c)) g r bc x' at_ H := by
  have he : Ex g w ((w.setCell ⟨g, 1, none⟩ (.int .i64 x'.e)).setCell ⟨g, 2, none⟩ (.slice x'.p x'.n x'.c)) := ((Ex.refl _ _).setCell 1 _).setCell 2 _
  refine h.setg he ?_ (hx.ex2 ⟨he.os, he.tape, he.output, he.size, fun k hk hg _ => he.block k hk hg⟩)
  have := h.blk
  unfold At at *
  exact heap_setCell_same _ g 2 _ _ _ (heap_setCell_same w g 1 _ _ _ this)

/-- What an append has done to a row in block r. -/
def Grew (w w' : World) (r r' : Nat) : Prop := (r' = r ∧ w.grownBy w' (some r)) ∨ (w.heap.size ≤ r' ∧ w.grownBy w' none)

theorem Grew.ex2 {w w' : World} {g r r' : Nat} (h : Grew w w' r r') : Ex2 g r w w' := by
  rcases h with ⟨_, h⟩ | ⟨_, h⟩
  · exact ⟨h.os, h.tape, h.output, h.size, fun k hk _ hr => h.block k hk (fun e => hr (Option.some.inj e))⟩
  · exact ⟨h.os, h.tape, h.output, h.size, fun k hk _ _ => h.block k hk (fun e => by cases e)⟩

theorem Grew.or {w w' : World} {r r' : Nat} (h : Grew w w' r r') : r' = r ∨ w.heap.size ≤ r' := by
  rcases h with ⟨h, _⟩ | ⟨h, _⟩
  · exact Or.inl h
  · exact Or.inr h

theorem rd_lt {w : World} {p : Option Addr} {n c : Nat} {ms : List Mb} (h : RdM w p n c ms) {a : Addr} (ha : p = some a) (h0 : 0 < n) : a.block < w.heap.size := by
  obtain ⟨b, o, hp, hc⟩ := h.cells h0
  rw [ha] at hp
  cases hp
  exact World.block_lt_of_cell? _ _ (hc 0 h0).1

theorem HE.rd.grew {w w' : World} {g r r' : Nat} {h : HE} (hh : h.rd w g r) (hg : Grew w w' r r') : h.rd w' g r' := by
  refine ⟨hh.1.ex2 hg.ex2 hh.2, fun a ha h0 => ⟨(hh.2 a ha h0).1, fun e => ?_⟩⟩
  rcases hg.or with e1 | e1
  · exact (hh.2 a ha h0).2 (e.trans e1)
  · have := rd_lt hh.1 ha h0
    omega

theorem cellsH_snoc (H : List HE) (h : HE) : cellsH (H ++ [h]) = cellsH H ++ h.cs := by simp [cellsH]

theorem run_appC (w : World) (ty : TypeId) (i : TypeInfo) (z : Value) (hi : Tryd.prog.info? 28 = some i) (hz : i.zero = some z) (hsize : i.size = 2) (hby : i.bytes = 32) (hzs : z.cells.size = 2)
    (r bc : Nat) (H : List HE) (ho : w.ownsRow 0 28 2 (.slice (some ⟨r, 0, none⟩) H.length bc) H.length (cellsH H)) (y d : Nat) (h : HE)
    (c0 : w.cell? ⟨y, 0, none⟩ = some (.int .i64 h.e)) (c1 : w.cell? ⟨y, 1, none⟩ = some (.slice h.p h.n h.c)) (hl : H.length ≤ 1099511627776) :
    ∃ r' bc' w', (Builtin.append_ #[87, 87] ty #[.slice (some ⟨r, 0, none⟩) H.length bc, .slice (some ⟨y, 0, none⟩) 1 d]).run Tryd.prog w = .ok (.slice (some ⟨r', 0, none⟩) (H.length + 1) bc') w' ∧
      w'.ownsRow 0 28 2 (.slice (some ⟨r', 0, none⟩) (H.length + 1) bc') (H.length + 1) (cellsH (H ++ [h])) ∧ Grew w w' r r' := by
  have hn : ∀ j u, h.cs[j]? = some u → w.cell? ((⟨y, 0, none⟩ : Addr).add j) = some u := by
    intro j u hj
    rw [Addr.add_lit, Nat.zero_add]
    match j, hj with
    | 0, hj => cases hj; exact c0
    | 1, hj => cases hj; exact c1
  have h1 : ∀ u ∈ h.cs, u.oneCell' = true := by
    intro u hu
    simp only [HE.cs, List.mem_cons, List.not_mem_nil, or_false] at hu
    rcases hu with rfl | rfl <;> rfl
  have h63 : H.length + 1 ≤ maxLen := by unfold maxLen; omega
  rcases Nat.lt_or_ge bc (H.length + 1) with hlt | hge
  · obtain ⟨v', w', g1, g2, g3⟩ := run_append_arg_grows (P := Tryd.prog) w 87 ty 28 i z 2 32 Tryd.underlying87 hi hz hsize hby hzs (by decide) ⟨r, 0, none⟩ H.length bc (cellsH H) (cellsH_len H) (World.ownsRow.cells ho rfl) ⟨y, 0, none⟩ 1 d h.cs rfl hn hlt h63 (by omega)
    rcases g2.2 with ⟨_, hv⟩ | ⟨g', cap, cur, rfl, hb, rest⟩
    · omega
    · exact ⟨g', cap, w', g1, ⟨by rw [cellsH_snoc]; exact g2.1, Or.inr ⟨g', cap, cur, rfl, Nat.zero_le _, by rw [cellsH_snoc]; exact rest⟩⟩, Or.inr ⟨hb, g3⟩⟩
  · obtain ⟨w', g1, g2, g3⟩ := run_append_own_spare (P := Tryd.prog) w 0 87 ty 28 i 2 Tryd.underlying87 hi hsize r H.length bc _ ho ⟨y, 0, none⟩ 1 d h.cs rfl hn h1 hge
    exact ⟨r, bc, w', g1, by rw [cellsH_snoc]; exact g2, Or.inl ⟨rfl, g3⟩⟩

/-- A ledger behind the append of a chain, its row stored. -/
theorem LB.grew {w w' : World} {g r r' bc bc' : Nat} {x y : HE} {at_ : Int} {H : List HE} (h : LB w g r bc x at_ H) (hg : Grew w w' r r') (ho : w'.ownsRow 0 28 2 (.slice (some ⟨r', 0, none⟩) (H.length + 1) bc') (H.length + 1) (cellsH (H ++ [y]))) (hy : y.rd w g r) :
    LB (w'.setCell ⟨g, 0, none⟩ (.slice (some ⟨r', 0, none⟩) (H.length + 1) bc')) g r' bc' x at_ (H ++ [y]) := by
  have hne : r' ≠ g := by
    rcases hg.or with e | e
    · rw [e]; exact h.ne
    · have := h.blk.lt; omega
  have hA : At 91 w' g #[.slice (some ⟨r, 0, none⟩) H.length bc, .int .i64 x.e, .slice x.p x.n x.c, .int .i64 at_] := by
    have h0 := h.blk
    unfold At at *
    rcases hg with ⟨_, h2⟩ | ⟨_, h2⟩
    · rw [h2.block g h.blk.lt (fun e => h.ne (Option.some.inj e).symm)]; exact h0
    · rw [h2.block g h.blk.lt (fun e => by cases e)]; exact h0
  have he : Ex g w' (w'.setCell ⟨g, 0, none⟩ (.slice (some ⟨r', 0, none⟩) (H.length + 1) bc')) := (Ex.refl _ _).setCell 0 _
  have h2 : Ex2 g r' w' (w'.setCell ⟨g, 0, none⟩ (.slice (some ⟨r', 0, none⟩) (H.length + 1) bc')) := ⟨he.os, he.tape, he.output, he.size, fun k hk hg _ => he.block k hk hg⟩
  have hlen : (H ++ [y]).length = H.length + 1 := by simp
  refine ⟨?_, ?_, hne, (h.now.grew hg).ex2 h2, fun u hu => ?_, by rw [hlen]; omega⟩
  · rw [hlen]
    unfold At at *
    exact heap_setCell_same _ g 0 _ _ _ hA
  · rw [hlen]
    refine ⟨ho.1, ?_⟩
    rcases ho.2 with h4 | ⟨g', cap, cur, hv, hg, hh, r3⟩
    · exact Or.inl h4
    · have : r' = g' := by injection hv with e1; injection e1 with e1; injection e1
      subst this
      exact Or.inr ⟨r', cap, cur, hv, hg, by rw [he.block r' (Array.getElem?_eq_some_iff.1 hh).1 hne]; exact hh, r3⟩
  · rcases List.mem_append.1 hu with hu | hu
    · exact ((h.old u hu).grew hg).ex2 h2
    · rw [List.mem_singleton.1 hu]
      exact (hy.grew hg).ex2 h2

end Go.Proofs.YtigojnpjpagfjaaDoor.M
