/-
  Own text: the law's calls in memory; contracts of index and data.
-/
import Derived.Test.YtjhcadckmklgnabJAwake
namespace Go.Proofs.Ytjhcadckmklgnab.M
open Go.ChangeShapes Go.WideShapes Go.ChangeAt Go.RowKit

/-- A call as it lies in memory, and its bytes. -/
structure Dj where
  k : Int
  n : Int
  s : Int
  e : Int
  bq : Option Addr
  bl : Nat
  bc : Nat
  raw : Bool
  by_ : Int
  off : Int
  b : List Int

instance : Inhabited Dj := ⟨⟨0, 0, 0, 0, none, 0, 0, false, 0, 0, []⟩⟩

/-- Its bytes can be read. -/
structure Dj.rd (w : World) (x : Dj) : Prop where
  b : Rd .u8 w x.bq x.bl x.bc x.b
  y : By x.b

theorem Dj.rd.below {w w' : World} {x : Dj} (h : x.rd w) (hb : Below w.heap.size w w') : x.rd w' := ⟨h.b.below hb, h.y⟩

/-- A call's eight cells. -/
structure Dj.at (w : World) (b o : Nat) (x : Dj) : Prop where
  c0 : w.cell? ⟨b, o, none⟩ = some (.int .i64 x.k)
  c1 : w.cell? ⟨b, o + 1, none⟩ = some (.int .i64 x.n)
  c2 : w.cell? ⟨b, o + 2, none⟩ = some (.int .i64 x.s)
  c3 : w.cell? ⟨b, o + 3, none⟩ = some (.int .i64 x.e)
  c4 : w.cell? ⟨b, o + 4, none⟩ = some (.slice x.bq x.bl x.bc)
  c5 : w.cell? ⟨b, o + 5, none⟩ = some (.bool x.raw)
  c6 : w.cell? ⟨b, o + 6, none⟩ = some (.int .i64 x.by_)
  c7 : w.cell? ⟨b, o + 7, none⟩ = some (.int .i64 x.off)

theorem cell_belowB {B : Nat} {w w' : World} {p : Addr} {v : Value} (hb : Below B w w') (hp : p.block < B) (h : w.cell? p = some v) : w'.cell? p = some v := by rw [hb.cell hp]; exact h

theorem Dj.at.below {w w' : World} {b o : Nat} {x : Dj} (h : x.at w b o) {B : Nat} (hb : Below B w w') (hB : b < B) : x.at w' b o :=
  ⟨cell_belowB hb hB h.c0, cell_belowB hb hB h.c1, cell_belowB hb hB h.c2, cell_belowB hb hB h.c3, cell_belowB hb hB h.c4, cell_belowB hb hB h.c5, cell_belowB hb hB h.c6, cell_belowB hb hB h.c7⟩

/-- A slice of calls that can be read. -/
structure RdJ (w : World) (p : Option Addr) (n c : Nat) (ls : List Dj) : Prop where
  len : ls.length = n
  cells : 0 < n → ∃ b o, p = some ⟨b, o, none⟩ ∧ ∀ j, j < n → (ls.getD j default).at w b (o + j * 8)
  rd : ∀ j, j < n → (ls.getD j default).rd w

theorem RdJ.below {w w' : World} {p : Option Addr} {n c : Nat} {ls : List Dj} (h : RdJ w p n c ls) (hb : Below w.heap.size w w') : RdJ w' p n c ls :=
  ⟨h.len, fun h0 => by
    obtain ⟨b, o, e, hc⟩ := h.cells h0
    exact ⟨b, o, e, fun j hj => (hc j hj).below hb (World.block_lt_of_cell? _ _ (hc j hj).c0)⟩, fun j hj => (h.rd j hj).below hb⟩

/-- Where a call goes to. -/
def ixR (x : Dj) (at_ : Int) : Int := if -3 < x.by_ ∧ x.by_ < 3 then at_ + 1 + x.by_ else at_ + 1

/-- A call's epoch. -/
def epR (x : Dj) (ep : Int) : Int := if -4 < x.off ∧ x.off < 4 then ep + x.off else x.e

/-- A call's bytes. -/
def dataR (x : Dj) (ep : Int) : List Int := if x.raw = true then x.b else if cmdOk x.k x.n x.s (epR x ep) = true then putAll [x.k, x.n, x.s, epR x ep] else []

set_option maxRecDepth 20000 in
set_option maxHeartbeats 2000000 in
theorem index_any (k n s e : Int) (bq : Option Addr) (bl bc : Nat) (raw : Bool) (by_ off : Int) (b : List Int) (at_ : Int) (ha : 0 ≤ at_ ∧ at_ ≤ 1099511627776) (w : World) :
    Calls Try.prog 8 #[.agg #[.int .i64 k, .int .i64 n, .int .i64 s, .int .i64 e, .slice bq bl bc, .bool raw, .int .i64 by_, .int .i64 off], .int .i64 at_] w fun o w' => o = .returned (.int .i64 (ixR ⟨k, n, s, e, bq, bl, bc, raw, by_, off, b⟩ at_)) ∧ Below w.heap.size w w' := by
  have hba := below_alloc w (.cells #[.int .i64 k, .int .i64 n, .int .i64 s, .int .i64 e, .slice bq bl bc, .bool raw, .int .i64 by_, .int .i64 off] 26)
  have hw1 : IntKind.i64.wrap (at_ + 1) = at_ + 1 := by rw [IntKind.wrap_i64]; omega
  by_cases h1 : -3 < by_
  · have d1 : decide (-3 < by_) = true := decide_eq_true h1
    by_cases h2 : by_ < 3
    · have d2 : decide (by_ < 3) = true := decide_eq_true h2
      have HI : Hid (ixR ⟨k, n, s, e, bq, bl, bc, raw, by_, off, b⟩ at_ = at_ + 1 + by_) := if_pos ⟨h1, h2⟩
      have hw2 : IntKind.i64.wrap (at_ + 1 + by_) = at_ + 1 + by_ := by rw [IntKind.wrap_i64]; omega
      rw [HI.out]
      clear h1 h2 HI
      go_enter Try.func8, Try.ntmps8
      go_wp2_with fail
      go_ret
      exact ⟨rfl, hba⟩
    · have d2 : decide (by_ < 3) = false := decide_eq_false h2
      have HI : Hid (ixR ⟨k, n, s, e, bq, bl, bc, raw, by_, off, b⟩ at_ = at_ + 1) := if_neg (fun h => h2 h.2)
      rw [HI.out]
      clear h1 HI
      go_enter Try.func8, Try.ntmps8
      go_wp2_with fail
      go_ret
      exact ⟨rfl, hba⟩
  · have d1 : decide (-3 < by_) = false := decide_eq_false h1
    have HI : Hid (ixR ⟨k, n, s, e, bq, bl, bc, raw, by_, off, b⟩ at_ = at_ + 1) := if_neg (fun h => h1 h.1)
    rw [HI.out]
    clear HI
    go_enter Try.func8, Try.ntmps8
    go_wp2_with fail
    go_ret
    exact ⟨rfl, hba⟩

/-- Bytes that data gave. -/
def Dat (w w' : World) (x : Dj) (ep : Int) (v : Value) : Prop := ∃ p n c, v = .slice p n c ∧ Rd .u8 w' p n c (dataR x ep) ∧ By (dataR x ep) ∧ (n ≤ x.bl ∨ n ≤ 40) ∧ ∀ a, p = some a → 0 < n → x.bq = some a ∧ 0 < x.bl ∨ w.heap.size ≤ a.block

set_option maxRecDepth 20000 in
set_option maxHeartbeats 2000000 in
theorem data_raw (k n s e : Int) (bq : Option Addr) (bl bc : Nat) (by_ off : Int) (b : List Int) (ep : Int) (w : World) (hr : Dj.rd w ⟨k, n, s, e, bq, bl, bc, true, by_, off, b⟩) :
    Calls Try.prog 9 #[.agg #[.int .i64 k, .int .i64 n, .int .i64 s, .int .i64 e, .slice bq bl bc, .bool true, .int .i64 by_, .int .i64 off], .int .i64 ep] w fun o w' => ∃ v, o = .returned v ∧ Dat w w' ⟨k, n, s, e, bq, bl, bc, true, by_, off, b⟩ ep v ∧ Below w.heap.size w w' := by
  have hba := below_alloc w (.cells #[.int .i64 k, .int .i64 n, .int .i64 s, .int .i64 e, .slice bq bl bc, .bool true, .int .i64 by_, .int .i64 off] 26)
  have hD : Dat w (w.alloc (.cells #[.int .i64 k, .int .i64 n, .int .i64 s, .int .i64 e, .slice bq bl bc, .bool true, .int .i64 by_, .int .i64 off] 26)) ⟨k, n, s, e, bq, bl, bc, true, by_, off, b⟩ ep (.slice bq bl bc) := ⟨bq, bl, bc, rfl, (hr.below hba).b, hr.y, Or.inl (Nat.le_refl _), fun a ha h0 => Or.inl ⟨ha, h0⟩⟩
  clear hr
  go_enter Try.func9, Try.ntmps9
  go_wp2_with fail
  go_ret
  exact ⟨_, rfl, hD, hba⟩

end Go.Proofs.Ytjhcadckmklgnab.M
