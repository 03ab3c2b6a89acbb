/-
  Own text: a Net in memory; contracts of links' New, made, isLink, Len, Lost, Wall.
-/
import Derived.Test.YtmnipfdcbmamnaaNMap
import Derived.Test.YtmnipfdcbmamnaaPure
import Derived.Test.YtmnipfdcbmamnaaNAt
import Derived.Test.YtmnipfdcbmamnaaYBase
import Derived.Test.YtmnipfdcbmamnaaDet2
import Derived.Lib.QuietBelow
import Derived.Test.YtmnipfdcbmamnaaProg
import Derived.WalkSpells
namespace Go.Proofs.Ytmnipfdcbmamnaa.M
open Go.ChangeShapes Go.WideShapes Go.ChangeAt Go.RowKit Go.ChangeMaps Go.MapKept Go.Maps

variable {Z : Nat → Prop}

theorem laid : laidOutB Try.prog = true := by kernel_rfl

theorem linkLaw : WideMaps.KeyLaw Try.prog 33 := deep_law_laid laid (m := 2) (by omega) (of_decide_eq_true (by kernel_rfl)) (by kernel_rfl) (by kernel_rfl)

/-- A link as a value. -/
def lkV (x y : Int) : Value := .agg #[.int .i64 x, .int .i64 y]

def Wf (x : Int) : Prop := (Lit.int .i64 x).wf = true

theorem key_ok {x y : Int} (hx : Wf x) (hy : Wf y) : keyOf Try.prog 33 (lkV x y) = some (.string (keyBytes [.int .i64 x, .int .i64 y])) := by
  have hkt : Try.prog.keyType 33 = true := by kernel_rfl
  have hc : Try.prog.cellsOf 33 = 2 := by kernel_rfl
  have hc1 : Try.prog.cellsOf 3 = 1 := by kernel_rfl
  have hx' : (Lit.int .i64 x).wf = true := hx
  have hy' : (Lit.int .i64 y).wf = true := hy
  obtain ⟨m, hm⟩ : ∃ m, Try.prog.types.size = m + 1 := ⟨Try.prog.types.size - 1, by kernel_rfl⟩
  unfold keyOf lkV
  simp only [Try.underlying33]
  rw [if_pos (by simp [hkt, Value.formed, Try.underlying33, hc]), hm]
  unfold Program.keyLits
  simp only [Try.underlying33, Value.cells]
  rw [if_pos (by rw [hc]; exact ⟨rfl, by kernel_rfl⟩)]
  simp [hc1, Program.keyLits, Try.underlying3, hx', hy', List.mapM_cons, List.mapM_nil]

/-- What stands at a link that has these messages. -/
def nv : List ByteArray → Value → Option Value
  | [], _ => none
  | _ :: _, v => some v

/-- What the map tells of a key. -/
def fL (F : Int → Int → Option Value) : Value → Option Value
  | .agg cs => match cs.toList with | [.int .i64 x, .int .i64 y] => F x y | _ => none
  | _ => none

theorem fL_key (F : Int → Int → Option Value) (x y : Int) : fL F (lkV x y) = F x y := rfl

theorem fL_ne {F G : Int → Int → Option Value} {x y : Int} (h : ∀ a b, ¬ (a = x ∧ b = y) → G a b = F a b) (v : Value) (hv : v ≠ lkV x y) : fL G v = fL F v := by
  unfold fL
  cases v with
  | agg cs =>
    obtain ⟨l⟩ := cs
    dsimp only
    split
    · next a b => exact h a b (fun e => hv (by rw [e.1, e.2]; rfl))
    · rfl
  | _ => rfl

/-- What is another's is not the Net's. -/
def NZ (Z : Nat → Prop) (w : World) (g b : Nat) (N : Int → Int → List ByteArray) (R : Int → Int → Value) : Prop :=
  (∀ k, Z k → k < w.heap.size) ∧ (¬ Z g ∧ ¬ Z b) ∧ ∀ x y, N x y ≠ [] → ∀ k, (R x y).ownBlock = some k → ¬ Z k

theorem NZ.mono {w w' : World} {g b : Nat} {N : Int → Int → List ByteArray} {R : Int → Int → Value} (h : NZ Z w g b N R) (hs : w.heap.size ≤ w'.heap.size) : NZ Z w' g b N R := ⟨fun k hk => Nat.lt_of_lt_of_le (h.1 k hk) hs, h.2⟩

/-- A Net in block g, its map in block b. -/
structure NB (Z : Nat → Prop) (w : World) (B g b n : Nat) (side : Nat) (lost : Int) (N : Int → Int → List ByteArray) (R : Int → Int → Value) : Prop where
  blk : At 68 w g #[.map (some b), .int .u64 side, .int .i64 lost]
  map : MapIs Try.prog 33 w b n (fL fun x y => nv (N x y) (R x y))
  rows : ∀ x y, N x y ≠ [] → w.ownsRow B 9 1 (R x y) (N x y).length ((N x y).map .string)
  apart : ∀ x y x' y', N x y ≠ [] → N x' y' ≠ [] → (R x y).ownBlock = (R x' y').ownBlock → x = x' ∧ y = y'
  ne : b ≠ g
  off : ∀ x y, N x y ≠ [] → (R x y).ownBlock ≠ some g ∧ (R x y).ownBlock ≠ some b
  lo : B ≤ g ∧ B ≤ b
  zz : NZ Z w g b N R

theorem NB.below {w w' : World} {B g b n side : Nat} {lost : Int} {N : Int → Int → List ByteArray} {R : Int → Int → Value} (h : NB Z w B g b n side lost N R) (hb : Below w.heap.size w w') : NB Z w' B g b n side lost N R :=
  ⟨h.blk.below hb, h.map.kept (hb.block b h.map.lt), fun x y hn => ownsRow_below (h.rows x y hn) hb, h.apart, h.ne, h.off, h.lo, h.zz.mono hb.size⟩

theorem mapT : Try.prog.underlying 66 = some (.map 33 75) := Try.underlying66

theorem zeroL : ∀ w : World, (zeroValue 75).run Try.prog w = .ok (.slice none 0 0) w := Try.zeroValue75

/-- The slice at a link. -/
def slV (l : List ByteArray) (v : Value) : Value := (nv l v).getD (.slice none 0 0)

theorem NB.look {w : World} {B g b n side : Nat} {lost : Int} {N : Int → Int → List ByteArray} {R : Int → Int → Value} (h : NB Z w B g b n side lost N R) {x y : Int} (hx : Wf x) (hy : Wf y) :
    (Instr.lookup 66 (.map (some b)) (lkV x y) false).run Try.prog w = .ok (slV (N x y) (R x y)) w :=
  h.map.look (Keyed.of_law linkLaw) mapT (zeroL w) (key_ok hx hy)

/-- .. its length. -/
theorem NB.sl {w : World} {B g b n side : Nat} {lost : Int} {N : Int → Int → List ByteArray} {R : Int → Int → Value} (h : NB Z w B g b n side lost N R) (x y : Int) : ∃ p c, slV (N x y) (R x y) = .slice p (N x y).length c ∧ w.ownsRow B 9 1 (slV (N x y) (R x y)) (N x y).length ((N x y).map .string) := by
  match hn : N x y with
  | [] => exact ⟨none, 0, rfl, ⟨rfl, Or.inl ⟨rfl, rfl⟩⟩⟩
  | a :: l =>
    have hr := h.rows x y (by rw [hn]; exact List.cons_ne_nil _ _)
    rw [hn] at hr
    have e : slV (a :: l) (R x y) = R x y := rfl
    rw [e]
    rcases hr.2 with ⟨_, h0⟩ | ⟨g', cap, cur, hv, _⟩
    · cases h0
    · exact ⟨some ⟨g', 0, none⟩, cap, hv, hr⟩

theorem neqMap (w : World) (r : Option Nat) : (binOp .neq 66 (.map r) (.map none)).run Try.prog w = .ok (.bool (!r.isNone)) w := by
  have h := run_neq_map_nil (P := Try.prog) w 66 _ _ r mapT
  exact h

set_option maxRecDepth 20000 in
theorem nmade_yes {w : World} {B g b n side : Nat} {lost : Int} {N : Int → Int → List ByteArray} {R : Int → Int → Value} (h : NB Z w B g b n side lost N R) :
    Calls Try.prog 37 #[.pointer (some ⟨g, 0, none⟩)] w fun o w' => o = .returned (.bool true) ∧ w' = w := by
  obtain ⟨q0, q1, q2⟩ := h.blk.three
  have hq := neqMap
  clear h
  go_enter Try.func37, Try.ntmps37
  go_wp2_with fail
  go_ret
  exact ⟨rfl, rfl⟩

set_option maxRecDepth 20000 in
set_option maxHeartbeats 2000000 in
theorem nLen_any {w : World} {B g b n side : Nat} {lost : Int} {N : Int → Int → List ByteArray} {R : Int → Int → Value} (h : NB Z w B g b n side lost N R) {x y : Int} (hx : Wf x) (hy : Wf y) :
    Calls Try.prog 13 #[.pointer (some ⟨g, 0, none⟩), .agg #[.int .i64 x, .int .i64 y]] w fun o w' => o = .returned (.int .i64 (N x y).length) ∧ Below w.heap.size w w' := by
  have hba := below_alloc w (.cells #[.int .i64 x, .int .i64 y] 33)
  have hA := At.new 33 w #[.int .i64 x, .int .i64 y]
  have hN := h.below hba
  have hm := nmade_yes hN
  obtain ⟨q0, q1, q2⟩ := hN.blk.three
  obtain ⟨a0, a1⟩ := hA.two
  obtain ⟨p, c, hs, _⟩ := hN.sl x y
  have hlk := fun t => NB.look (hN.below (below_drewN (Below.refl _ _) t)) hx hy
  unfold lkV at hlk
  rw [hs] at hlk
  clear h hN hs hA
  generalize (N x y).length = L at *
  go_enter Try.func13, Try.ntmps13
  go_wp2_with fail
  refine hm.mono ?_
  rintro o w1 ⟨rfl, hw⟩
  subst hw
  clear hm
  go_wp2_with fail
  go_quiet (fail)
  go_wp2_with fail
  go_ret
  exact ⟨rfl, below_drewN hba _⟩

end Go.Proofs.Ytmnipfdcbmamnaa.M
