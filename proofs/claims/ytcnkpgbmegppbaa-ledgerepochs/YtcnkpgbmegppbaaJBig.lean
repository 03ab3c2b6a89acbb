/-
  Own text: the law's calls in memory; contracts of index and data.
  Own text: the contract of data.
  Own text: what short answers, of any lists of calls.
  Own text: a ledger behind calls: the contract of the law's made.
-/
import Derived.Test.YtcnkpgbmegppbaaJAwake
import Derived.Lib.QuietBelow
namespace Go.Proofs.Ytcnkpgbmegppbaa.M
open Go.ChangeShapes Go.WideShapes Go.ChangeAt Go.RowKit

/-- A call as it lies in memory, and its bytes. -/
structure Dj where
  k : Int
  n : Int
  s : Int
  e : Int
  bq : Option Addr
  bl : Nat
  bc : Nat
  raw : Bool
  by_ : Int
  off : Int
  b : List Int

def Dj.z0 : Dj := ⟨0, 0, 0, 0, none, 0, 0, false, 0, 0, []⟩

/-- Its bytes can be read. -/
structure Dj.rd (w : World) (x : Dj) : Prop where
  b : Rd .u8 w x.bq x.bl x.bc x.b
  y : By x.b

theorem Dj.rd.below {w w' : World} {x : Dj} (h : x.rd w) (hb : Below w.heap.size w w') : x.rd w' := ⟨h.b.below hb, h.y⟩

/-- A call's eight cells. -/
structure Dj.at (w : World) (b o : Nat) (x : Dj) : Prop where
  c0 : w.cell? ⟨b, o, none⟩ = some (.int .i64 x.k)
  c1 : w.cell? ⟨b, o + 1, none⟩ = some (.int .i64 x.n)
  c2 : w.cell? ⟨b, o + 2, none⟩ = some (.int .i64 x.s)
  c3 : w.cell? ⟨b, o + 3, none⟩ = some (.int .i64 x.e)
  c4 : w.cell? ⟨b, o + 4, none⟩ = some (.slice x.bq x.bl x.bc)
  c5 : w.cell? ⟨b, o + 5, none⟩ = some (.bool x.raw)
  c6 : w.cell? ⟨b, o + 6, none⟩ = some (.int .i64 x.by_)
  c7 : w.cell? ⟨b, o + 7, none⟩ = some (.int .i64 x.off)

theorem cell_belowB {B : Nat} {w w' : World} {p : Addr} {v : Value} (hb : Below B w w') (hp : p.block < B) (h : w.cell? p = some v) : w'.cell? p = some v := by rw [hb.cell hp]; exact h

theorem Dj.at.below {w w' : World} {b o : Nat} {x : Dj} (h : x.at w b o) {B : Nat} (hb : Below B w w') (hB : b < B) : x.at w' b o :=
  ⟨cell_belowB hb hB h.c0, cell_belowB hb hB h.c1, cell_belowB hb hB h.c2, cell_belowB hb hB h.c3, cell_belowB hb hB h.c4, cell_belowB hb hB h.c5, cell_belowB hb hB h.c6, cell_belowB hb hB h.c7⟩

/-- A slice of calls that can be read. -/
structure RdJ (w : World) (p : Option Addr) (n c : Nat) (ls : List Dj) : Prop where
  len : ls.length = n
  cells : 0 < n → ∃ b o, p = some ⟨b, o, none⟩ ∧ ∀ j, j < n → (ls.getD j .z0).at w b (o + j * 8)
  rd : ∀ j, j < n → (ls.getD j .z0).rd w

theorem RdJ.below {w w' : World} {p : Option Addr} {n c : Nat} {ls : List Dj} (h : RdJ w p n c ls) (hb : Below w.heap.size w w') : RdJ w' p n c ls :=
  ⟨h.len, fun h0 => by
    obtain ⟨b, o, e, hc⟩ := h.cells h0
    exact ⟨b, o, e, fun j hj => (hc j hj).below hb (World.block_lt_of_cell? _ _ (hc j hj).c0)⟩, fun j hj => (h.rd j hj).below hb⟩

/-- Where a call goes to. -/
def ixR (x : Dj) (at_ : Int) : Int := if -3 < x.by_ ∧ x.by_ < 3 then at_ + 1 + x.by_ else at_ + 1

/-- A call's epoch. -/
def epR (x : Dj) (ep : Int) : Int := if -4 < x.off ∧ x.off < 4 then ep + x.off else x.e

/-- A call's bytes. -/
def dataR (x : Dj) (ep : Int) : List Int := if x.raw = true then x.b else if cmdOk x.k x.n x.s (epR x ep) = true then putAll [x.k, x.n, x.s, epR x ep] else []

set_option maxRecDepth 20000 in
set_option maxHeartbeats 2000000 in
theorem index_any (k n s e : Int) (bq : Option Addr) (bl bc : Nat) (raw : Bool) (by_ off : Int) (b : List Int) (at_ : Int) (ha : 0 ≤ at_ ∧ at_ ≤ 1099511627776) (w : World) :
    Calls Try.prog 30 #[.agg #[.int .i64 k, .int .i64 n, .int .i64 s, .int .i64 e, .slice bq bl bc, .bool raw, .int .i64 by_, .int .i64 off], .int .i64 at_] w fun o w' => o = .returned (.int .i64 (ixR ⟨k, n, s, e, bq, bl, bc, raw, by_, off, b⟩ at_)) ∧ Below w.heap.size w w' := by
  have hba := below_alloc w (.cells #[.int .i64 k, .int .i64 n, .int .i64 s, .int .i64 e, .slice bq bl bc, .bool raw, .int .i64 by_, .int .i64 off] 57)
  have hw1 : IntKind.i64.wrap (at_ + 1) = at_ + 1 := by rw [IntKind.wrap_i64]; omega
  by_cases h1 : -3 < by_
  · have d1 : decide (-3 < by_) = true := decide_eq_true h1
    by_cases h2 : by_ < 3
    · have d2 : decide (by_ < 3) = true := decide_eq_true h2
      have HI : Hid (ixR ⟨k, n, s, e, bq, bl, bc, raw, by_, off, b⟩ at_ = at_ + 1 + by_) := if_pos ⟨h1, h2⟩
      have hw2 : IntKind.i64.wrap (at_ + 1 + by_) = at_ + 1 + by_ := by rw [IntKind.wrap_i64]; omega
      rw [HI.out]
      clear h1 h2 HI
      go_enter Try.func30, Try.ntmps30
      go_wp2_with fail
      go_ret
      exact ⟨rfl, hba⟩
    · have d2 : decide (by_ < 3) = false := decide_eq_false h2
      have HI : Hid (ixR ⟨k, n, s, e, bq, bl, bc, raw, by_, off, b⟩ at_ = at_ + 1) := if_neg (fun h => h2 h.2)
      rw [HI.out]
      clear h1 HI
      go_enter Try.func30, Try.ntmps30
      go_wp2_with fail
      go_ret
      exact ⟨rfl, hba⟩
  · have d1 : decide (-3 < by_) = false := decide_eq_false h1
    have HI : Hid (ixR ⟨k, n, s, e, bq, bl, bc, raw, by_, off, b⟩ at_ = at_ + 1) := if_neg (fun h => h1 h.1)
    rw [HI.out]
    clear HI
    go_enter Try.func30, Try.ntmps30
    go_wp2_with fail
    go_ret
    exact ⟨rfl, hba⟩

/-- Bytes that data gave. -/
def Dat (w w' : World) (x : Dj) (ep : Int) (v : Value) : Prop := ∃ p n c, v = .slice p n c ∧ Rd .u8 w' p n c (dataR x ep) ∧ By (dataR x ep) ∧ (n ≤ x.bl ∨ n ≤ 40) ∧ ∀ a, p = some a → 0 < n → x.bq = some a ∧ 0 < x.bl ∨ w.heap.size ≤ a.block

set_option maxRecDepth 20000 in
set_option maxHeartbeats 2000000 in
theorem data_raw (k n s e : Int) (bq : Option Addr) (bl bc : Nat) (by_ off : Int) (b : List Int) (ep : Int) (w : World) (hr : Dj.rd w ⟨k, n, s, e, bq, bl, bc, true, by_, off, b⟩) :
    Calls Try.prog 26 #[.agg #[.int .i64 k, .int .i64 n, .int .i64 s, .int .i64 e, .slice bq bl bc, .bool true, .int .i64 by_, .int .i64 off], .int .i64 ep] w fun o w' => ∃ v, o = .returned v ∧ Dat w w' ⟨k, n, s, e, bq, bl, bc, true, by_, off, b⟩ ep v ∧ Below w.heap.size w w' := by
  have hba := below_alloc w (.cells #[.int .i64 k, .int .i64 n, .int .i64 s, .int .i64 e, .slice bq bl bc, .bool true, .int .i64 by_, .int .i64 off] 57)
  have hD : Dat w (w.alloc (.cells #[.int .i64 k, .int .i64 n, .int .i64 s, .int .i64 e, .slice bq bl bc, .bool true, .int .i64 by_, .int .i64 off] 57)) ⟨k, n, s, e, bq, bl, bc, true, by_, off, b⟩ ep (.slice bq bl bc) := ⟨bq, bl, bc, rfl, (hr.below hba).b, hr.y, Or.inl (Nat.le_refl _), fun a ha h0 => Or.inl ⟨ha, h0⟩⟩
  clear hr
  go_enter Try.func26, Try.ntmps26
  go_wp2_with fail
  go_ret
  exact ⟨_, rfl, hD, hba⟩

end Go.Proofs.Ytcnkpgbmegppbaa.M

namespace Go.Proofs.Ytcnkpgbmegppbaa.M
open Go.ChangeShapes Go.WideShapes Go.ChangeAt Go.RowKit

set_option maxRecDepth 20000 in
set_option maxHeartbeats 2000000 in
theorem data_in_ok (k n s e : Int) (bq : Option Addr) (bl bc : Nat) (by_ off : Int) (b : List Int) (ep : Int) (hep : 0 ≤ ep ∧ ep ≤ 1099511627776) (w : World) (h1 : -4 < off) (h2 : off < 4) (hc : cmdOk k n s (ep + off) = true) :
    Calls Try.prog 26 #[.agg #[.int .i64 k, .int .i64 n, .int .i64 s, .int .i64 e, .slice bq bl bc, .bool false, .int .i64 by_, .int .i64 off], .int .i64 ep] w fun o w' => ∃ v, o = .returned v ∧ Dat w w' ⟨k, n, s, e, bq, bl, bc, false, by_, off, b⟩ ep v ∧ Below w.heap.size w w' := by
  have hba := below_alloc w (.cells #[.int .i64 k, .int .i64 n, .int .i64 s, .int .i64 e, .slice bq bl bc, .bool false, .int .i64 by_, .int .i64 off] 57)
  have hbb := below_alloc (w.alloc (.cells #[.int .i64 k, .int .i64 n, .int .i64 s, .int .i64 e, .slice bq bl bc, .bool false, .int .i64 by_, .int .i64 off] 57)) (.cells #[.int .i64 k, .int .i64 n, .int .i64 s, .int .i64 (ep + off)] 23)
  have hB0 := hba.trans (hbb.mono hba.size)
  have hE : epR ⟨k, n, s, e, bq, bl, bc, false, by_, off, b⟩ ep = (ep + off) := if_pos ⟨h1, h2⟩
  have hDR : dataR ⟨k, n, s, e, bq, bl, bc, false, by_, off, b⟩ ep = putAll [k, n, s, (ep + off)] := by
    unfold dataR
    rw [if_neg (show ¬ false = true by decide), hE]
    exact if_pos hc
  have HD : Hid (dataR ⟨k, n, s, e, bq, bl, bc, false, by_, off, b⟩ ep = putAll [k, n, s, (ep + off)]) := hDR
  have hsz : ((w.alloc (.cells #[.int .i64 k, .int .i64 n, .int .i64 s, .int .i64 e, .slice bq bl bc, .bool false, .int .i64 by_, .int .i64 off] 57)).alloc (.cells #[.int .i64 k, .int .i64 n, .int .i64 s, .int .i64 (ep + off)] 23)).heap.size = w.heap.size + 2 := by simp
  have hB1 : Below w.heap.size w ((w.alloc (.cells #[.int .i64 k, .int .i64 n, .int .i64 s, .int .i64 e, .slice bq bl bc, .bool false, .int .i64 by_, .int .i64 off] 57)).alloc (.cells #[.int .i64 k, .int .i64 n, .int .i64 s, .int .i64 (ep + off)] 23)) := hB0
  have g1 := fun W => rPut_ok k n s (ep + off) W hc
  have hlen : (putAll [k, n, s, (ep + off)]).length ≤ 40 := by have hl := cmd_lim hc; exact putAll_len (l := [k, n, s, (ep + off)]) (by intro x hx; simp only [List.mem_cons, List.not_mem_nil, or_false] at hx; rcases hx with rfl | rfl | rfl | rfl <;> omega)
  have d1 : decide (-4 < off) = true := decide_eq_true h1
  have d2 : decide (off < 4) = true := decide_eq_true h2
  have hw : IntKind.i64.wrap (ep + off) = ep + off := by rw [IntKind.wrap_i64]; omega
  clear h1 h2
  clear hDR hE hc hba hbb
  go_enter Try.func26, Try.ntmps26
  go_wp2_with fail
  refine (g1 _).mono ?_
  rintro o w3 ⟨v, rfl, p3, c3, rfl, ho, hb3⟩
  have hfar := ho.far
  have hrd := ho.rd
  obtain ⟨L, HL⟩ : ∃ L, Hid (putAll [k, n, s, (ep + off)] = L) := ⟨_, rfl⟩
  rw [HL.out] at hrd hfar hlen HD ⊢
  have hBy : By L := by rw [← HL.out]; exact putAll_by _
  have hs1 := hB1.size
  clear ho g1 HL
  go_wp2_with fail
  go_ret
  exact ⟨_, rfl, ⟨_, _, _, rfl, by rw [HD.out]; exact hrd, by rw [HD.out]; exact hBy, Or.inr hlen, fun a ha h0 => Or.inr (Nat.le_trans hs1 (hfar a ha h0))⟩, hB1.trans (hb3.mono hs1)⟩

set_option maxRecDepth 20000 in
set_option maxHeartbeats 2000000 in
theorem data_in_no (k n s e : Int) (bq : Option Addr) (bl bc : Nat) (by_ off : Int) (b : List Int) (ep : Int) (hep : 0 ≤ ep ∧ ep ≤ 1099511627776) (w : World) (h1 : -4 < off) (h2 : off < 4) (hc : cmdOk k n s (ep + off) = false) :
    Calls Try.prog 26 #[.agg #[.int .i64 k, .int .i64 n, .int .i64 s, .int .i64 e, .slice bq bl bc, .bool false, .int .i64 by_, .int .i64 off], .int .i64 ep] w fun o w' => ∃ v, o = .returned v ∧ Dat w w' ⟨k, n, s, e, bq, bl, bc, false, by_, off, b⟩ ep v ∧ Below w.heap.size w w' := by
  have hba := below_alloc w (.cells #[.int .i64 k, .int .i64 n, .int .i64 s, .int .i64 e, .slice bq bl bc, .bool false, .int .i64 by_, .int .i64 off] 57)
  have hbb := below_alloc (w.alloc (.cells #[.int .i64 k, .int .i64 n, .int .i64 s, .int .i64 e, .slice bq bl bc, .bool false, .int .i64 by_, .int .i64 off] 57)) (.cells #[.int .i64 k, .int .i64 n, .int .i64 s, .int .i64 (ep + off)] 23)
  have hB0 := hba.trans (hbb.mono hba.size)
  have hE : epR ⟨k, n, s, e, bq, bl, bc, false, by_, off, b⟩ ep = (ep + off) := if_pos ⟨h1, h2⟩
  have hDR : dataR ⟨k, n, s, e, bq, bl, bc, false, by_, off, b⟩ ep = [] := by
    unfold dataR
    rw [if_neg (show ¬ false = true by decide), hE]
    exact if_neg (fun h => by rw [hc] at h; cases h)
  have HD : Hid (dataR ⟨k, n, s, e, bq, bl, bc, false, by_, off, b⟩ ep = []) := hDR
  have hsz : ((w.alloc (.cells #[.int .i64 k, .int .i64 n, .int .i64 s, .int .i64 e, .slice bq bl bc, .bool false, .int .i64 by_, .int .i64 off] 57)).alloc (.cells #[.int .i64 k, .int .i64 n, .int .i64 s, .int .i64 (ep + off)] 23)).heap.size = w.heap.size + 2 := by simp
  have hB1 : Below w.heap.size w ((w.alloc (.cells #[.int .i64 k, .int .i64 n, .int .i64 s, .int .i64 e, .slice bq bl bc, .bool false, .int .i64 by_, .int .i64 off] 57)).alloc (.cells #[.int .i64 k, .int .i64 n, .int .i64 s, .int .i64 (ep + off)] 23)) := hB0
  have g1 := fun W => rPut_no k n s (ep + off) W hc
  have d1 : decide (-4 < off) = true := decide_eq_true h1
  have d2 : decide (off < 4) = true := decide_eq_true h2
  have hw : IntKind.i64.wrap (ep + off) = ep + off := by rw [IntKind.wrap_i64]; omega
  clear h1 h2
  clear hDR hE hc hba hbb
  go_enter Try.func26, Try.ntmps26
  go_wp2_with fail
  refine (g1 _).mono ?_
  rintro o w3 ⟨rfl, hb3⟩
  have hs1 := hB1.size
  clear g1
  go_wp2_with fail
  go_ret
  exact ⟨_, rfl, ⟨_, _, _, rfl, by rw [HD.out]; exact Rd.empty _ _ _ _ (fun _ => rfl), by rw [HD.out]; exact By.nil, Or.inr (Nat.zero_le _), fun a ha h0 => absurd h0 (Nat.lt_irrefl _)⟩, hB1.trans (hb3.mono hs1)⟩

set_option maxRecDepth 20000 in
set_option maxHeartbeats 2000000 in
theorem data_up_ok (k n s e : Int) (bq : Option Addr) (bl bc : Nat) (by_ off : Int) (b : List Int) (ep : Int) (_hep : 0 ≤ ep ∧ ep ≤ 1099511627776) (w : World) (h1 : -4 < off) (h2 : ¬ off < 4) (hc : cmdOk k n s e = true) :
    Calls Try.prog 26 #[.agg #[.int .i64 k, .int .i64 n, .int .i64 s, .int .i64 e, .slice bq bl bc, .bool false, .int .i64 by_, .int .i64 off], .int .i64 ep] w fun o w' => ∃ v, o = .returned v ∧ Dat w w' ⟨k, n, s, e, bq, bl, bc, false, by_, off, b⟩ ep v ∧ Below w.heap.size w w' := by
  have hba := below_alloc w (.cells #[.int .i64 k, .int .i64 n, .int .i64 s, .int .i64 e, .slice bq bl bc, .bool false, .int .i64 by_, .int .i64 off] 57)
  have hbb := below_alloc (w.alloc (.cells #[.int .i64 k, .int .i64 n, .int .i64 s, .int .i64 e, .slice bq bl bc, .bool false, .int .i64 by_, .int .i64 off] 57)) (.cells #[.int .i64 k, .int .i64 n, .int .i64 s, .int .i64 e] 23)
  have hB0 := hba.trans (hbb.mono hba.size)
  have hE : epR ⟨k, n, s, e, bq, bl, bc, false, by_, off, b⟩ ep = e := if_neg (fun h => h2 h.2)
  have hDR : dataR ⟨k, n, s, e, bq, bl, bc, false, by_, off, b⟩ ep = putAll [k, n, s, e] := by
    unfold dataR
    rw [if_neg (show ¬ false = true by decide), hE]
    exact if_pos hc
  have HD : Hid (dataR ⟨k, n, s, e, bq, bl, bc, false, by_, off, b⟩ ep = putAll [k, n, s, e]) := hDR
  have hsz : ((w.alloc (.cells #[.int .i64 k, .int .i64 n, .int .i64 s, .int .i64 e, .slice bq bl bc, .bool false, .int .i64 by_, .int .i64 off] 57)).alloc (.cells #[.int .i64 k, .int .i64 n, .int .i64 s, .int .i64 e] 23)).heap.size = w.heap.size + 2 := by simp
  have hB1 : Below w.heap.size w ((w.alloc (.cells #[.int .i64 k, .int .i64 n, .int .i64 s, .int .i64 e, .slice bq bl bc, .bool false, .int .i64 by_, .int .i64 off] 57)).alloc (.cells #[.int .i64 k, .int .i64 n, .int .i64 s, .int .i64 e] 23)) := hB0
  have g1 := fun W => rPut_ok k n s e W hc
  have hlen : (putAll [k, n, s, e]).length ≤ 40 := by have hl := cmd_lim hc; exact putAll_len (l := [k, n, s, e]) (by intro x hx; simp only [List.mem_cons, List.not_mem_nil, or_false] at hx; rcases hx with rfl | rfl | rfl | rfl <;> omega)
  have d1 : decide (-4 < off) = true := decide_eq_true h1
  have d2 : decide (off < 4) = false := decide_eq_false h2
  clear h1
  clear hDR hE hc hba hbb
  go_enter Try.func26, Try.ntmps26
  go_wp2_with fail
  refine (g1 _).mono ?_
  rintro o w3 ⟨v, rfl, p3, c3, rfl, ho, hb3⟩
  have hfar := ho.far
  have hrd := ho.rd
  obtain ⟨L, HL⟩ : ∃ L, Hid (putAll [k, n, s, e] = L) := ⟨_, rfl⟩
  rw [HL.out] at hrd hfar hlen HD ⊢
  have hBy : By L := by rw [← HL.out]; exact putAll_by _
  have hs1 := hB1.size
  clear ho g1 HL
  go_wp2_with fail
  go_ret
  exact ⟨_, rfl, ⟨_, _, _, rfl, by rw [HD.out]; exact hrd, by rw [HD.out]; exact hBy, Or.inr hlen, fun a ha h0 => Or.inr (Nat.le_trans hs1 (hfar a ha h0))⟩, hB1.trans (hb3.mono hs1)⟩

set_option maxRecDepth 20000 in
set_option maxHeartbeats 2000000 in
theorem data_up_no (k n s e : Int) (bq : Option Addr) (bl bc : Nat) (by_ off : Int) (b : List Int) (ep : Int) (_hep : 0 ≤ ep ∧ ep ≤ 1099511627776) (w : World) (h1 : -4 < off) (h2 : ¬ off < 4) (hc : cmdOk k n s e = false) :
    Calls Try.prog 26 #[.agg #[.int .i64 k, .int .i64 n, .int .i64 s, .int .i64 e, .slice bq bl bc, .bool false, .int .i64 by_, .int .i64 off], .int .i64 ep] w fun o w' => ∃ v, o = .returned v ∧ Dat w w' ⟨k, n, s, e, bq, bl, bc, false, by_, off, b⟩ ep v ∧ Below w.heap.size w w' := by
  have hba := below_alloc w (.cells #[.int .i64 k, .int .i64 n, .int .i64 s, .int .i64 e, .slice bq bl bc, .bool false, .int .i64 by_, .int .i64 off] 57)
  have hbb := below_alloc (w.alloc (.cells #[.int .i64 k, .int .i64 n, .int .i64 s, .int .i64 e, .slice bq bl bc, .bool false, .int .i64 by_, .int .i64 off] 57)) (.cells #[.int .i64 k, .int .i64 n, .int .i64 s, .int .i64 e] 23)
  have hB0 := hba.trans (hbb.mono hba.size)
  have hE : epR ⟨k, n, s, e, bq, bl, bc, false, by_, off, b⟩ ep = e := if_neg (fun h => h2 h.2)
  have hDR : dataR ⟨k, n, s, e, bq, bl, bc, false, by_, off, b⟩ ep = [] := by
    unfold dataR
    rw [if_neg (show ¬ false = true by decide), hE]
    exact if_neg (fun h => by rw [hc] at h; cases h)
  have HD : Hid (dataR ⟨k, n, s, e, bq, bl, bc, false, by_, off, b⟩ ep = []) := hDR
  have hsz : ((w.alloc (.cells #[.int .i64 k, .int .i64 n, .int .i64 s, .int .i64 e, .slice bq bl bc, .bool false, .int .i64 by_, .int .i64 off] 57)).alloc (.cells #[.int .i64 k, .int .i64 n, .int .i64 s, .int .i64 e] 23)).heap.size = w.heap.size + 2 := by simp
  have hB1 : Below w.heap.size w ((w.alloc (.cells #[.int .i64 k, .int .i64 n, .int .i64 s, .int .i64 e, .slice bq bl bc, .bool false, .int .i64 by_, .int .i64 off] 57)).alloc (.cells #[.int .i64 k, .int .i64 n, .int .i64 s, .int .i64 e] 23)) := hB0
  have g1 := fun W => rPut_no k n s e W hc
  have d1 : decide (-4 < off) = true := decide_eq_true h1
  have d2 : decide (off < 4) = false := decide_eq_false h2
  clear h1
  clear hDR hE hc hba hbb
  go_enter Try.func26, Try.ntmps26
  go_wp2_with fail
  refine (g1 _).mono ?_
  rintro o w3 ⟨rfl, hb3⟩
  have hs1 := hB1.size
  clear g1
  go_wp2_with fail
  go_ret
  exact ⟨_, rfl, ⟨_, _, _, rfl, by rw [HD.out]; exact Rd.empty _ _ _ _ (fun _ => rfl), by rw [HD.out]; exact By.nil, Or.inr (Nat.zero_le _), fun a ha h0 => absurd h0 (Nat.lt_irrefl _)⟩, hB1.trans (hb3.mono hs1)⟩

set_option maxRecDepth 20000 in
set_option maxHeartbeats 2000000 in
theorem data_dn_ok (k n s e : Int) (bq : Option Addr) (bl bc : Nat) (by_ off : Int) (b : List Int) (ep : Int) (_hep : 0 ≤ ep ∧ ep ≤ 1099511627776) (w : World) (h1 : ¬ -4 < off) (hc : cmdOk k n s e = true) :
    Calls Try.prog 26 #[.agg #[.int .i64 k, .int .i64 n, .int .i64 s, .int .i64 e, .slice bq bl bc, .bool false, .int .i64 by_, .int .i64 off], .int .i64 ep] w fun o w' => ∃ v, o = .returned v ∧ Dat w w' ⟨k, n, s, e, bq, bl, bc, false, by_, off, b⟩ ep v ∧ Below w.heap.size w w' := by
  have hba := below_alloc w (.cells #[.int .i64 k, .int .i64 n, .int .i64 s, .int .i64 e, .slice bq bl bc, .bool false, .int .i64 by_, .int .i64 off] 57)
  have hbb := below_alloc (w.alloc (.cells #[.int .i64 k, .int .i64 n, .int .i64 s, .int .i64 e, .slice bq bl bc, .bool false, .int .i64 by_, .int .i64 off] 57)) (.cells #[.int .i64 k, .int .i64 n, .int .i64 s, .int .i64 e] 23)
  have hB0 := hba.trans (hbb.mono hba.size)
  have hE : epR ⟨k, n, s, e, bq, bl, bc, false, by_, off, b⟩ ep = e := if_neg (fun h => h1 h.1)
  have hDR : dataR ⟨k, n, s, e, bq, bl, bc, false, by_, off, b⟩ ep = putAll [k, n, s, e] := by
    unfold dataR
    rw [if_neg (show ¬ false = true by decide), hE]
    exact if_pos hc
  have HD : Hid (dataR ⟨k, n, s, e, bq, bl, bc, false, by_, off, b⟩ ep = putAll [k, n, s, e]) := hDR
  have hsz : ((w.alloc (.cells #[.int .i64 k, .int .i64 n, .int .i64 s, .int .i64 e, .slice bq bl bc, .bool false, .int .i64 by_, .int .i64 off] 57)).alloc (.cells #[.int .i64 k, .int .i64 n, .int .i64 s, .int .i64 e] 23)).heap.size = w.heap.size + 2 := by simp
  have hB1 : Below w.heap.size w ((w.alloc (.cells #[.int .i64 k, .int .i64 n, .int .i64 s, .int .i64 e, .slice bq bl bc, .bool false, .int .i64 by_, .int .i64 off] 57)).alloc (.cells #[.int .i64 k, .int .i64 n, .int .i64 s, .int .i64 e] 23)) := hB0
  have g1 := fun W => rPut_ok k n s e W hc
  have hlen : (putAll [k, n, s, e]).length ≤ 40 := by have hl := cmd_lim hc; exact putAll_len (l := [k, n, s, e]) (by intro x hx; simp only [List.mem_cons, List.not_mem_nil, or_false] at hx; rcases hx with rfl | rfl | rfl | rfl <;> omega)
  have d1 : decide (-4 < off) = false := decide_eq_false h1
  clear hDR hE hc hba hbb
  go_enter Try.func26, Try.ntmps26
  go_wp2_with fail
  refine (g1 _).mono ?_
  rintro o w3 ⟨v, rfl, p3, c3, rfl, ho, hb3⟩
  have hfar := ho.far
  have hrd := ho.rd
  obtain ⟨L, HL⟩ : ∃ L, Hid (putAll [k, n, s, e] = L) := ⟨_, rfl⟩
  rw [HL.out] at hrd hfar hlen HD ⊢
  have hBy : By L := by rw [← HL.out]; exact putAll_by _
  have hs1 := hB1.size
  clear ho g1 HL
  go_wp2_with fail
  go_ret
  exact ⟨_, rfl, ⟨_, _, _, rfl, by rw [HD.out]; exact hrd, by rw [HD.out]; exact hBy, Or.inr hlen, fun a ha h0 => Or.inr (Nat.le_trans hs1 (hfar a ha h0))⟩, hB1.trans (hb3.mono hs1)⟩

set_option maxRecDepth 20000 in
set_option maxHeartbeats 2000000 in
theorem data_dn_no (k n s e : Int) (bq : Option Addr) (bl bc : Nat) (by_ off : Int) (b : List Int) (ep : Int) (_hep : 0 ≤ ep ∧ ep ≤ 1099511627776) (w : World) (h1 : ¬ -4 < off) (hc : cmdOk k n s e = false) :
    Calls Try.prog 26 #[.agg #[.int .i64 k, .int .i64 n, .int .i64 s, .int .i64 e, .slice bq bl bc, .bool false, .int .i64 by_, .int .i64 off], .int .i64 ep] w fun o w' => ∃ v, o = .returned v ∧ Dat w w' ⟨k, n, s, e, bq, bl, bc, false, by_, off, b⟩ ep v ∧ Below w.heap.size w w' := by
  have hba := below_alloc w (.cells #[.int .i64 k, .int .i64 n, .int .i64 s, .int .i64 e, .slice bq bl bc, .bool false, .int .i64 by_, .int .i64 off] 57)
  have hbb := below_alloc (w.alloc (.cells #[.int .i64 k, .int .i64 n, .int .i64 s, .int .i64 e, .slice bq bl bc, .bool false, .int .i64 by_, .int .i64 off] 57)) (.cells #[.int .i64 k, .int .i64 n, .int .i64 s, .int .i64 e] 23)
  have hB0 := hba.trans (hbb.mono hba.size)
  have hE : epR ⟨k, n, s, e, bq, bl, bc, false, by_, off, b⟩ ep = e := if_neg (fun h => h1 h.1)
  have hDR : dataR ⟨k, n, s, e, bq, bl, bc, false, by_, off, b⟩ ep = [] := by
    unfold dataR
    rw [if_neg (show ¬ false = true by decide), hE]
    exact if_neg (fun h => by rw [hc] at h; cases h)
  have HD : Hid (dataR ⟨k, n, s, e, bq, bl, bc, false, by_, off, b⟩ ep = []) := hDR
  have hsz : ((w.alloc (.cells #[.int .i64 k, .int .i64 n, .int .i64 s, .int .i64 e, .slice bq bl bc, .bool false, .int .i64 by_, .int .i64 off] 57)).alloc (.cells #[.int .i64 k, .int .i64 n, .int .i64 s, .int .i64 e] 23)).heap.size = w.heap.size + 2 := by simp
  have hB1 : Below w.heap.size w ((w.alloc (.cells #[.int .i64 k, .int .i64 n, .int .i64 s, .int .i64 e, .slice bq bl bc, .bool false, .int .i64 by_, .int .i64 off] 57)).alloc (.cells #[.int .i64 k, .int .i64 n, .int .i64 s, .int .i64 e] 23)) := hB0
  have g1 := fun W => rPut_no k n s e W hc
  have d1 : decide (-4 < off) = false := decide_eq_false h1
  clear hDR hE hc hba hbb
  go_enter Try.func26, Try.ntmps26
  go_wp2_with fail
  refine (g1 _).mono ?_
  rintro o w3 ⟨rfl, hb3⟩
  have hs1 := hB1.size
  clear g1
  go_wp2_with fail
  go_ret
  exact ⟨_, rfl, ⟨_, _, _, rfl, by rw [HD.out]; exact Rd.empty _ _ _ _ (fun _ => rfl), by rw [HD.out]; exact By.nil, Or.inr (Nat.zero_le _), fun a ha h0 => absurd h0 (Nat.lt_irrefl _)⟩, hB1.trans (hb3.mono hs1)⟩

theorem data_any (x : Dj) (ep : Int) (hep : 0 ≤ ep ∧ ep ≤ 1099511627776) (w : World) (hr : x.rd w) :
    Calls Try.prog 26 #[.agg #[.int .i64 x.k, .int .i64 x.n, .int .i64 x.s, .int .i64 x.e, .slice x.bq x.bl x.bc, .bool x.raw, .int .i64 x.by_, .int .i64 x.off], .int .i64 ep] w fun o w' => ∃ v, o = .returned v ∧ Dat w w' x ep v ∧ Below w.heap.size w w' := by
  obtain ⟨k, n, s, e, bq, bl, bc, raw, by_, off, b⟩ := x
  cases raw with
  | true => exact data_raw k n s e bq bl bc by_ off b ep w hr
  | false =>
    dsimp only
    by_cases h1 : -4 < off
    · by_cases h2 : off < 4
      · cases hc : cmdOk k n s (ep + off) with
        | true => exact data_in_ok k n s e bq bl bc by_ off b ep hep w h1 h2 hc
        | false => exact data_in_no k n s e bq bl bc by_ off b ep hep w h1 h2 hc
      · cases hc : cmdOk k n s e with
        | true => exact data_up_ok k n s e bq bl bc by_ off b ep hep w h1 h2 hc
        | false => exact data_up_no k n s e bq bl bc by_ off b ep hep w h1 h2 hc
    · cases hc : cmdOk k n s e with
      | true => exact data_dn_ok k n s e bq bl bc by_ off b ep hep w h1 hc
      | false => exact data_dn_no k n s e bq bl bc by_ off b ep hep w h1 hc

end Go.Proofs.Ytcnkpgbmegppbaa.M

namespace Go.Proofs.Ytcnkpgbmegppbaa.M
open Go.ChangeShapes Go.WideShapes Go.ChangeAt Go.RowKit

/-- A call's length, as short counts it. -/
def Dj.sz (x : Dj) : Nat := min x.bl 4097

/-- That of the first k. -/
def szN (ls : List Dj) : Nat → Nat
  | 0 => 0
  | k + 1 => szN ls k + (ls.getD k .z0).sz

/-- That of the first k lists, and how many calls they have. -/
def totN (LL : List (List Dj)) : Nat → Nat
  | 0 => 0
  | k + 1 => totN LL k + szN (LL.getD k []) (LL.getD k []).length
def cntN (LL : List (List Dj)) : Nat → Nat
  | 0 => 0
  | k + 1 => cntN LL k + (LL.getD k []).length

/-- Slices of calls. -/
structure RdJJ (w : World) (p : Option Addr) (n : Nat) (LL : List (List Dj)) : Prop where
  len : LL.length = n
  cells : 0 < n → ∃ b o, p = some ⟨b, o, none⟩ ∧ ∀ j, j < n → ∃ q m d, w.cell? ⟨b, o + j, none⟩ = some (.slice q m d) ∧ RdJ w q m d (LL.getD j [])

/-- What short has counted. -/
def Sh (t c : Nat) (x y : Int) : Prop := 0 ≤ x ∧ x ≤ 9000 ∧ 0 ≤ y ∧ y ≤ 151 ∧ (x ≤ 4096 → y ≤ 150 → x = t ∧ y = c)

/-- What it answers. -/
def ShE (LL : List (List Dj)) (e : Ending) : Prop := ∃ b, e = .returned (.bool b) ∧ (b = true → totN LL LL.length ≤ 4096 ∧ cntN LL LL.length ≤ 150)

set_option maxRecDepth 20000 in
set_option maxHeartbeats 2000000 in
theorem short_any (w : World) (p : Option Addr) (n c : Nat) (LL : List (List Dj)) (h : RdJJ w p n LL) (hn : n ≤ 1000) :
    Calls Try.prog 16 #[.slice p n c] w fun e w' => ShE LL e ∧ Below w.heap.size w w' := by
  go_enter Try.func16, Try.ntmps16
  go_wp2_with fail
  go_loopw [3, 4, 10] (fun x y i wr => ∃ (k : Nat) (p q : Int), k ≤ n ∧ i = .int .i64 k ∧ x = .int .i64 p ∧ y = .int .i64 q ∧ Sh (totN LL k) (cntN LL k) p q ∧ Below w.heap.size w wr) (fun _ _ i _ => n - (intOf i).toNat)
  case atStart => exact ⟨0, 0, 0, Nat.zero_le _, rfl, rfl, rfl, ⟨by decide, by decide, by decide, by decide, fun _ _ => ⟨rfl, rfl⟩⟩, Below.refl _ _⟩
  case round =>
    obtain ⟨k, x, y, hk, rfl, rfl, rfl, hS, hb⟩ := hrel
    by_cases hkn : k < n
    · have hki : (k : Int) < (n : Int) := by omega
      obtain ⟨b, o, rfl, hc⟩ := h.cells (by omega)
      obtain ⟨q, m, d, hq, hr⟩ := hc k hkn
      have HT : Hid (totN LL (k + 1) = totN LL k + szN (LL.getD k []) (LL.getD k []).length) := rfl
      have HC : Hid (cntN LL (k + 1) = cntN LL k + (LL.getD k []).length) := rfl
      have hq2 := cell_belowB hb (World.block_lt_of_cell? _ _ hq) hq
      have hlen := hr.len
      clear hc hq
      generalize LL.getD k [] = ls at *
      generalize totN LL k = T at *
      generalize cntN LL k = C at *
      rw [hlen] at HT HC
      go_wp2_with fail
      go_loopw [3, 4, 7] (fun x y i wq => ∃ (j : Nat) (p q : Int), j ≤ m ∧ i = .int .i64 j ∧ x = .int .i64 p ∧ y = .int .i64 q ∧ Sh (T + szN ls j) (C + j) p q ∧ Below w.heap.size w wq) (fun _ _ i _ => m - (intOf i).toNat)
      case atStart => exact ⟨0, x, y, Nat.zero_le _, rfl, rfl, rfl, hS, hb⟩
      case round =>
        rename_i wk _ _
        clear hb hS hq2
        obtain ⟨j, x, y, hj, rfl, rfl, rfl, hS, hb⟩ := hrel
        obtain ⟨s1, s2, s3, s4, s5⟩ := hS
        by_cases hjm : j < m
        · have hji : (j : Int) < (m : Int) := by omega
          by_cases hy : y ≤ 150
          · by_cases hx : x ≤ 4096
            · obtain ⟨gb, go, rfl, gc⟩ := hr.cells (by omega)
              have gj := gc j hjm
              have gj2 := gj.below hb (World.block_lt_of_cell? _ _ gj.c0)
              have HZ : Hid (szN ls (j + 1) = szN ls j + (ls.getD j .z0).sz) := rfl
              obtain ⟨e1, e2⟩ := s5 hx hy
              have hj150 : j ≤ 150 := by omega
              clear gc gj hr h
              generalize ls.getD j .z0 = z at *
              obtain ⟨zk, zn, zs, ze, bq, bl, bc, raw, by_, off, xb⟩ := z
              obtain ⟨c0, c1, c2, c3, c4, c5, c6, c7⟩ := gj2
              dsimp only [Dj.sz] at *
              clear s5
              have E1 : Hid _ := e1
              have E2 : Hid _ := e2
              clear e1 e2 c0 c1 c2 c3 c5 c6 c7
              go_wp2_with fail
              have z1 := HZ.out
              have z2 := E1.out
              have z3 := E2.out
              have hm : (x + (if 4097 < (bl : Int) then 4097 else (bl : Int))) = ((T + szN ls (j + 1) : Nat) : Int) := by
                rw [z1, z2]
                split <;> omega
              have hs1 : szN ls (j + 1) ≤ szN ls j + 4097 := by rw [z1]; omega
              refine ⟨⟨j + 1, _, _, by omega, by go_num, rfl, rfl, ?_, hb⟩, by simp [intOf]; omega⟩
              rw [hm]
              exact ⟨by omega, by omega, by omega, by omega, fun _ _ => ⟨rfl, by omega⟩⟩
            · go_wp2_with fail
              exact ⟨⟨k + 1, x, y, by omega, by go_num, rfl, rfl, ⟨s1, s2, s3, s4, fun h _ => absurd h hx⟩, hb⟩, by simp [intOf]; omega⟩
          · go_wp2_with fail
            exact ⟨⟨k + 1, x, y, by omega, by go_num, rfl, rfl, ⟨s1, s2, s3, s4, fun _ h => absurd h hy⟩, hb⟩, by simp [intOf]; omega⟩
        · obtain rfl : j = m := by omega
          go_wp2_with fail
          exact ⟨⟨k + 1, x, y, by omega, by go_num, rfl, rfl, ⟨s1, s2, s3, s4, fun h1 h2 => by rw [HT.out, HC.out]; exact s5 h1 h2⟩, hb⟩, by simp [intOf]; omega⟩
    · obtain rfl : k = n := by omega
      obtain ⟨s1, s2, s3, s4, s5⟩ := hS
      have hL := h.len
      by_cases hq : y ≤ 150
      · go_wp2_with fail
        go_ret
        refine ⟨⟨_, rfl, fun hb => ?_⟩, hb⟩
        have hx : x ≤ 4096 := of_decide_eq_true hb
        obtain ⟨e1, e2⟩ := s5 hx hq
        rw [hL]
        omega
      · go_wp2_with fail
        go_ret
        exact ⟨⟨_, rfl, fun hb => by cases hb⟩, hb⟩

theorem szN_small {ls : List Dj} : ∀ k, szN ls k ≤ 4096 → ∀ j, j < k → (ls.getD j .z0).bl ≤ 4096
  | 0, _ => fun _ h => absurd h (Nat.not_lt_zero _)
  | k + 1, h => by
    have h' : szN ls k + min (ls.getD k .z0).bl 4097 ≤ 4096 := h
    have i2 := szN_small (ls := ls) k (by omega)
    intro j hj
    by_cases e : j = k
    · subst e; omega
    · exact i2 j (by omega)

theorem tot_one {LL : List (List Dj)} : ∀ k, totN LL k ≤ 4096 → ∀ j, j < k → szN (LL.getD j []) (LL.getD j []).length ≤ 4096 ∧ (LL.getD j []).length ≤ cntN LL k
  | 0, _, _, h => absurd h (Nat.not_lt_zero _)
  | k + 1, h, j, hj => by
    have h' : totN LL k + szN (LL.getD k []) (LL.getD k []).length ≤ 4096 := h
    have e : cntN LL (k + 1) = cntN LL k + (LL.getD k []).length := rfl
    by_cases ej : j = k
    · subst ej; omega
    · have := tot_one (LL := LL) k (by omega) j (by omega)
      omega

/-- Their bytes are not many. -/
def Small (ls : List Dj) : Prop := ∀ j, j < ls.length → (ls.getD j .z0).bl ≤ 4096

/-- What a short answer says of each list. -/
theorem short_of {LL : List (List Dj)} (h : totN LL LL.length ≤ 4096 ∧ cntN LL LL.length ≤ 150) {j : Nat} (hj : j < LL.length) : (LL.getD j []).length ≤ 150 ∧ Small (LL.getD j []) := by
  obtain ⟨h1, h2⟩ := tot_one _ h.1 j hj
  exact ⟨Nat.le_trans h2 h.2, szN_small _ h1⟩

theorem RdJ.one {w : World} {b : Nat} {x : Dj} (h : x.at w b 0) (hr : x.rd w) : RdJ w (some ⟨b, 0, none⟩) 1 1 [x] :=
  ⟨rfl, fun _ => ⟨b, 0, rfl, fun j hj => by
    obtain rfl : j = 0 := by omega
    exact h⟩, fun j hj => by
    obtain rfl : j = 0 := by omega
    exact hr⟩

/-- Two lists. -/
theorem RdJJ.two {w : World} {b : Nat} {p q : Option Addr} {n c m d : Nat} {ls ks : List Dj} (h0 : w.cell? ⟨b, 0, none⟩ = some (.slice p n c)) (h1 : w.cell? ⟨b, 1, none⟩ = some (.slice q m d)) (r0 : RdJ w p n c ls) (r1 : RdJ w q m d ks) : RdJJ w (some ⟨b, 0, none⟩) 2 [ls, ks] :=
  ⟨rfl, fun _ => ⟨b, 0, rfl, fun j hj => by
    rw [Nat.zero_add]
    match j, hj with
    | 0, _ => exact ⟨p, n, c, h0, r0⟩
    | 1, _ => exact ⟨q, m, d, h1, r1⟩⟩⟩

end Go.Proofs.Ytcnkpgbmegppbaa.M

namespace Go.Proofs.Ytcnkpgbmegppbaa.M
open Go.ChangeShapes Go.WideShapes Go.ChangeAt Go.RowKit

/-- A ledger behind a call. -/
def stepJ (s : PL) (x : Dj) : PL := (s.app (ixR x s.at_) (dataR x s.e)).2

/-- .. behind the first k calls. -/
def playJ (s : PL) (ls : List Dj) : Nat → PL
  | 0 => s
  | k + 1 => stepJ (playJ s ls k) (ls.getD k .z0)

theorem playJ_ok {s : PL} (h : s.ok) (ls : List Dj) : ∀ k, (playJ s ls k).ok
  | 0 => h
  | k + 1 => PL.app_ok (playJ_ok h ls k) _ _

theorem At.range {t : TypeId} {W : World} {b : Nat} {cs : List Value} (h : At t W b cs.toArray) : W.rangeAt b 0 cs := by
  intro j v hj
  rw [Nat.zero_add, h.cell j]
  simpa using hj

theorem sizeDo : (Try.prog.info? 57).map (·.size) = some 8 := by kernel_rfl

theorem Rd.stays (p : Option Addr) (n c : Nat) (xs : List Int) : Stays (fun W => Rd .u8 W p n c xs) := fun _ _ h hb => h.below hb

theorem field_e (a b : Value) (w : World) : (Instr.field 42 (.agg #[a, b]) 0).run Try.prog w = .ok a w := by
  have hi : (Try.prog.info? 3).map (·.size) = some 1 := by kernel_rfl
  cases hq : Try.prog.info? 3 with
  | none => simp [hq] at hi
  | some i =>
    have hs : i.size = 1 := by simpa [hq] using hi
    simp [Instr.field, run_underlying Try.underlying42, part, asAgg, sizeOf, typeInfo, hq, hs]

set_option linter.unusedSimpArgs false in
set_option maxRecDepth 20000 in
set_option maxHeartbeats 4000000 in
theorem made_law (p : Option Addr) (n c : Nat) (ms : List Mb) (w : World) (hm : RdM w p n c ms) (M : List Mb) (hF : FirstIs n ms (.ok (1, M))) (hM : chk 1 M = true) (q : Option Addr) (m d : Nat) (ls : List Dj) (h : RdJ w q m d ls) (hm1 : m ≤ 150) (hsm : Small ls) :
    Calls Try.prog 18 #[.slice p n c, .slice q m d] w fun o w' => ∃ v, o = .returned v ∧ ∃ g r, v = .pointer (some ⟨g, 0, none⟩) ∧ LP w' g r (playJ ⟨1, M, 0, [(1, M)]⟩ ls m) ∧ w.heap.size ≤ g ∧ w.heap.size ≤ r ∧ Below w.heap.size w w' := by
  have hN := New_ok p n c ms w hm M hF
  have hs0 : (⟨1, M, 0, [(1, M)]⟩ : PL).ok := PL.first_ok hM
  clear hm hF
  go_enter Try.func18, Try.ntmps18
  go_wp2_with fail
  refine hN.mono ?_
  rintro o w1 ⟨v, rfl, g, r1, rfl, hL1, hg, hr1, hb1⟩
  go_wp2_with fail
  generalize hs00 : (⟨1, M, 0, [(1, M)]⟩ : PL) = s0 at *
  have HS00 : Hid ((⟨1, M, 0, [(1, M)]⟩ : PL) = s0) := hs00
  clear hs00
  generalize hB : w.heap.size = B at *
  go_loopw [16] (fun i wr => ∃ (k r : Nat), k ≤ m ∧ i = .int .i64 k ∧ LP wr g r (playJ s0 ls k) ∧ B ≤ r ∧ Below B w wr) (fun i _ => m - (intOf i).toNat)
  case atStart => exact ⟨0, r1, Nat.zero_le _, rfl, hL1, hr1, hb1⟩
  case round =>
    clear hL1 hr1 hb1 hN
    obtain ⟨k, r, hk, rfl, hL, hr, hb⟩ := hrel
    by_cases hkn : k < m
    · have hki : (k : Int) < (m : Int) := by omega
      have hs := playJ_ok hs0 ls k
      have HS : Hid (playJ s0 ls (k + 1) = stepJ (playJ s0 ls k) (ls.getD k .z0)) := rfl
      have hl6 := (chk_parts hs.chk).2.2.2
      have hse : 0 ≤ (playJ s0 ls k).e ∧ (playJ s0 ls k).e ≤ 1099511627776 := by have := chk_parts hs.chk; omega
      generalize playJ s0 ls k = s at *
      obtain ⟨b, o, rfl, hc⟩ := h.cells (by omega)
      have hck := hc k hkn
      have hblt := World.block_lt_of_cell? _ _ hck.c0
      have hck2 := hck.below hb (by rw [← hB]; exact hblt)
      have hrd0 := (h.rd k hkn).below (hB ▸ hb)
      have hbl : (ls.getD k .z0).bl ≤ 1099511627776 := by have := hsm k (by rw [h.len]; exact hkn); omega
      clear hc hck h hsm hs0
      generalize ls.getD k .z0 = z at *
      obtain ⟨xk, xn, xs, xe, bq, bl, bc, raw, by_, off, xb⟩ := z
      obtain ⟨c0, c1, c2, c3, c4, c5, c6, c7⟩ := hck2
      dsimp only at *
      have hba := below_alloc wr (.cells #[.int .i64 xk, .int .i64 xn, .int .i64 xs, .int .i64 xe, .slice bq bl bc, .bool raw, .int .i64 by_, .int .i64 off] 57)
      have hA5 := At.new 57 wr #[.int .i64 xk, .int .i64 xn, .int .i64 xs, .int .i64 xe, .slice bq bl bc, .bool raw, .int .i64 by_, .int .i64 off]
      have hL5 := hL.below hba
      have hrd5 := hrd0.below hba
      have hgs : B ≤ wr.heap.size := by rw [← hB]; exact hb.size
      have hxg : wr.heap.size ≠ g := Nat.ne_of_gt hL.lt.1
      have hxr : wr.heap.size ≠ r := Nat.ne_of_gt hL.lt.2
      have hB5 : B ≤ (wr.alloc (.cells #[.int .i64 xk, .int .i64 xn, .int .i64 xs, .int .i64 xe, .slice bq bl bc, .bool raw, .int .i64 by_, .int .i64 off] 57)).heap.size := Nat.le_trans hgs hba.size
      have hb5 : Below B w (wr.alloc (.cells #[.int .i64 xk, .int .i64 xn, .int .i64 xs, .int .i64 xe, .slice bq bl bc, .bool raw, .int .i64 by_, .int .i64 off] 57)) := hb.trans (hba.mono hgs)
      clear hL hrd0 hb hba hgs
      go_wp2_with fail
      generalize (wr.alloc (.cells #[.int .i64 xk, .int .i64 xn, .int .i64 xs, .int .i64 xe, .slice bq bl bc, .bool raw, .int .i64 by_, .int .i64 off] 57)) = w5 at *
      generalize wr.heap.size = x at *
      have hS5 : Bl w5 w5.drew := (Below.refl _ _).drew
      refine wp_region_det [0, 1, 2, 5, 6, 8] (fun W => At 57 W x #[.int .i64 xk, .int .i64 xn, .int .i64 xs, .int .i64 xe, .slice bq bl bc, .bool raw, .int .i64 by_, .int .i64 off]) (Bl w5) (by kernel_rfl) hS5 ?_
      refine wpDet_take ?vM0 (Bl.stays w5) (fun W h => hA5.below h) (i := 0) rfl (by kernel_rfl) (by kernel_rfl) (by kernel_rfl) (by kernel_rfl) (fun _ _ _ h => h) (Gives.value (by rfl) ?yM0) ?rM0
      case yM0 => (intro w' hSw; go_simp; try with_reducible rfl)
      (try simp only [Act.put, List.getElem_toArray, List.getElem_cons_zero, List.getElem_cons_succ, List.setIfInBounds_toArray, List.set_cons_zero, List.set_cons_succ])
      refine wpDet_take _ (Bl.stays w5) (fun W h => hA5.below h) (i := 1) rfl (by kernel_rfl) (by kernel_rfl) (by kernel_rfl) (by kernel_rfl) (fun _ _ _ h => h) (Gives.of_yields (yieldsIf_load_mid (by rfl) _ _ rfl _ _ rfl _ _ (fun W h => h.range) Try.underlying57 rfl sizeDo)) ?_
      (try simp only [Act.put, List.getElem_toArray, List.getElem_cons_zero, List.getElem_cons_succ, List.setIfInBounds_toArray, List.set_cons_zero, List.set_cons_succ])
      refine wpDet_take ?vM2 (Bl.stays w5) (fun W h => hA5.below h) (i := 2) rfl (by kernel_rfl) (by kernel_rfl) (by kernel_rfl) (by kernel_rfl) (fun _ _ _ h => h) (Gives.value (by rfl) ?yM2) ?rM2
      case yM2 => (intro w' hSw; go_simp; try with_reducible rfl)
      (try simp only [Act.put, List.getElem_toArray, List.getElem_cons_zero, List.getElem_cons_succ, List.setIfInBounds_toArray, List.set_cons_zero, List.set_cons_succ])
      refine wpDet_take _ (Bl.stays w5) (fun W h => hA5.below h) (i := 5) rfl (by kernel_rfl) (by kernel_rfl) (by kernel_rfl) (by kernel_rfl) (fun _ _ _ h => h) (Gives.of_yields (yieldsIf_load_mid (by rfl) _ _ rfl _ _ rfl _ _ (fun W h => h.range) Try.underlying57 rfl sizeDo)) ?_
      (try simp only [Act.put, List.getElem_toArray, List.getElem_cons_zero, List.getElem_cons_succ, List.setIfInBounds_toArray, List.set_cons_zero, List.set_cons_succ])
      refine wpDet_take ?vM6 (Bl.stays w5) (fun W h => hA5.below h) (i := 6) rfl (by kernel_rfl) (by kernel_rfl) (by kernel_rfl) (by kernel_rfl) (fun _ _ _ h => h) (Gives.value (by rfl) ?yM6) ?rM6
      case yM6 => (intro w' hSw; go_simp; try with_reducible rfl)
      (try simp only [Act.put, List.getElem_toArray, List.getElem_cons_zero, List.getElem_cons_succ, List.setIfInBounds_toArray, List.set_cons_zero, List.set_cons_succ])
      refine wpDet_ready (rs := [3]) (by kernel_rfl) (by simp) (AllDet.cons rfl (fun V hV K hK => ?_) AllDet.nil)
      rw [if_pos (by rfl)]
      refine wp_enterE 28 #[.pointer (some ⟨g, 0, none⟩)] (by first | (go_simp; done) | (go_simp; rfl)) (fun v W => v = .int .i64 s.at_ ∧ W = V) ((At_any g r s V (hL5.below hV)).mono fun e' w' hh => ⟨_, hh.1, rfl, hh.2⟩) ?_
      rintro v V7 ⟨rfl, hw7⟩
      subst V7
      refine hK.out (Bl w5) _ _ (Bl.stays w5) (fun _ => (fun W h => hA5.below h)) hV ?_
      clear hK K hV
      (try simp only [Act.put, List.getElem_toArray, List.getElem_cons_zero, List.getElem_cons_succ, List.setIfInBounds_toArray, List.set_cons_zero, List.set_cons_succ])
      refine wpDet_ready (rs := [4]) (by kernel_rfl) (by simp) (AllDet.cons rfl (fun V hV K hK => ?_) AllDet.nil)
      rw [if_pos (by rfl)]
      refine wp_enterE 30 #[.agg #[.int .i64 xk, .int .i64 xn, .int .i64 xs, .int .i64 xe, .slice bq bl bc, .bool raw, .int .i64 by_, .int .i64 off], .int .i64 s.at_] (by first | (go_simp; done) | (go_simp; rfl)) (fun v W => v = .int .i64 (ixR ⟨xk, xn, xs, xe, bq, bl, bc, raw, by_, off, xb⟩ s.at_) ∧ Below V.heap.size V W) ((index_any xk xn xs xe bq bl bc raw by_ off xb s.at_ ⟨hs.at0, hs.at1⟩ V).mono fun e' w' hh => ⟨_, hh.1, rfl, hh.2⟩) ?_
      rintro v V7 ⟨rfl, hb7⟩
      refine hK.out (Bl w5) _ _ (Bl.stays w5) (fun _ => (fun W h => hA5.below h)) (Bl.stays w5 V V7 hV hb7) ?_
      clear hK K hV hb7
      (try simp only [Act.put, List.getElem_toArray, List.getElem_cons_zero, List.getElem_cons_succ, List.setIfInBounds_toArray, List.set_cons_zero, List.set_cons_succ])
      refine wpDet_ready (rs := [7]) (by kernel_rfl) (by simp) (AllDet.cons rfl (fun V hV K hK => ?_) AllDet.nil)
      rw [if_pos (by rfl)]
      refine wp_enterE 20 #[.pointer (some ⟨g, 0, none⟩)] (by first | (go_simp; done) | (go_simp; rfl)) (fun v W => (∃ q d, v = .agg #[.int .i64 s.e, .slice q s.ms.length d]) ∧ Below V.heap.size V W) ((Chain_any g r s V (hL5.below hV) hl6).mono fun e' w' hh => by obtain ⟨v, h1, q, d, h2, _, _, h3⟩ := hh; exact ⟨v, h1, ⟨q, d, h2⟩, h3⟩) ?_
      rintro v V7 ⟨⟨q7, d7, rfl⟩, hb7⟩
      refine hK.out (Bl w5) _ _ (Bl.stays w5) (fun _ => (fun W h => hA5.below h)) (Bl.stays w5 V V7 hV hb7) ?_
      clear hK K hV hb7
      (try simp only [Act.put, List.getElem_toArray, List.getElem_cons_zero, List.getElem_cons_succ, List.setIfInBounds_toArray, List.set_cons_zero, List.set_cons_succ])
      refine wpDet_take ?vM8 (Bl.stays w5) (fun W h => hA5.below h) (i := 8) rfl (by kernel_rfl) (by kernel_rfl) (by kernel_rfl) (by kernel_rfl) (fun _ _ _ h => h) (Gives.value (by rfl) ?yM8) ?rM8
      case yM8 => (intro w' hSw; have hfe := field_e; go_simp; try with_reducible rfl)
      (try simp only [Act.put, List.getElem_toArray, List.getElem_cons_zero, List.getElem_cons_succ, List.setIfInBounds_toArray, List.set_cons_zero, List.set_cons_succ])
      refine wpDet_ready (rs := [9]) (by kernel_rfl) (by simp) (AllDet.cons rfl (fun V hV K hK => ?_) AllDet.nil)
      rw [if_pos (by rfl)]
      refine wp_enterE 26 #[.agg #[.int .i64 xk, .int .i64 xn, .int .i64 xs, .int .i64 xe, .slice bq bl bc, .bool raw, .int .i64 by_, .int .i64 off], .int .i64 s.e] (by first | (go_simp; done) | (go_simp; rfl)) (fun v W => Dat V W ⟨xk, xn, xs, xe, bq, bl, bc, raw, by_, off, xb⟩ s.e v ∧ Below V.heap.size V W) ((data_any ⟨xk, xn, xs, xe, bq, bl, bc, raw, by_, off, xb⟩ s.e hse V (hrd5.below hV)).mono fun e' w' hh => by obtain ⟨v, h1, h2, h3⟩ := hh; exact ⟨v, h1, h2, h3⟩) ?_
      rintro v V7 ⟨⟨p9, n9, c9, rfl, hrd9, hby9, hn9, hfar9⟩, hb7⟩
      refine hK.out (fun W => Bl w5 W ∧ Rd .u8 W p9 n9 c9 (dataR ⟨xk, xn, xs, xe, bq, bl, bc, raw, by_, off, xb⟩ s.e)) _ _ ((Bl.stays w5).and (Rd.stays _ _ _ _)) (fun _ W h => hA5.below h.1) ⟨Bl.stays w5 V V7 hV hb7, hrd9⟩ ?_
      clear hK K hV hb7 hrd9 hfar9
      (try simp only [Act.put, List.getElem_toArray, List.getElem_cons_zero, List.getElem_cons_succ, List.setIfInBounds_toArray, List.set_cons_zero, List.set_cons_succ])
      refine wpDet_ready (rs := [10]) (by kernel_rfl) (by simp) (AllDet.cons rfl (fun V hV K hK => ?_) AllDet.nil)
      rw [if_pos (by rfl)]
      have hLV := hL5.below hV.1
      have hA9 := hA5.below hV.1
      have hb9 := Bl.out hV.1
      have hAp := Apply_any g r s V hLV hs (ixR ⟨xk, xn, xs, xe, bq, bl, bc, raw, by_, off, xb⟩ s.at_) p9 n9 c9 (dataR ⟨xk, xn, xs, xe, bq, bl, bc, raw, by_, off, xb⟩ s.e) hV.2 hby9 (hn9.elim (fun h => Nat.le_trans h hbl) (fun h => by omega))
      refine wp_enterE 27 #[.pointer (some ⟨g, 0, none⟩), .int .i64 (ixR ⟨xk, xn, xs, xe, bq, bl, bc, raw, by_, off, xb⟩ s.at_), .slice p9 n9 c9] (by first | (go_simp; done) | (go_simp; rfl)) (fun v W => v = .int .i64 (s.app (ixR ⟨xk, xn, xs, xe, bq, bl, bc, raw, by_, off, xb⟩ s.at_) (dataR ⟨xk, xn, xs, xe, bq, bl, bc, raw, by_, off, xb⟩ s.e)).1 ∧ Aft V W g r (s.app (ixR ⟨xk, xn, xs, xe, bq, bl, bc, raw, by_, off, xb⟩ s.at_) (dataR ⟨xk, xn, xs, xe, bq, bl, bc, raw, by_, off, xb⟩ s.e)).2 ∧ Ex2 g r V W) (hAp.mono fun e' w' hh => ⟨_, hh.1, rfl, hh.2⟩) ?_
      rintro v V7 ⟨rfl, hAf, hE7⟩
      obtain ⟨r7, hr7, hL7⟩ := hAf
      have hA7 : At 57 V7 x #[.int .i64 xk, .int .i64 xn, .int .i64 xs, .int .i64 xe, .slice bq bl bc, .bool raw, .int .i64 by_, .int .i64 off] := (hE7.block x hA9.lt hxg hxr).trans hA9
      have hB7 := hb9.mono hB5 |>.trans (hE7.below hg hr (Nat.le_trans hB5 hb9.size))
      refine hK.out (fun W => LP W g r7 (s.app (ixR ⟨xk, xn, xs, xe, bq, bl, bc, raw, by_, off, xb⟩ s.at_) (dataR ⟨xk, xn, xs, xe, bq, bl, bc, raw, by_, off, xb⟩ s.e)).2 ∧ At 57 W x #[.int .i64 xk, .int .i64 xn, .int .i64 xs, .int .i64 xe, .slice bq bl bc, .bool raw, .int .i64 by_, .int .i64 off] ∧ B ≤ W.heap.size ∧ Below B w5 W) _ _ (fun _ _ h hb => ⟨h.1.below hb, h.2.1.below hb, Nat.le_trans h.2.2.1 hb.size, h.2.2.2.trans (hb.mono h.2.2.1)⟩) (fun _ W h => h.2.1) ⟨hL7, hA7, Nat.le_trans hB5 (Nat.le_trans hb9.size hE7.size), hB7⟩ ?_
      have hr70 : B ≤ r7 := hr7.elim (fun h => by rw [h]; exact hr) (fun h => Nat.le_trans (Nat.le_trans hB5 hb9.size) h)
      clear hK K hV hLV hA9 hb9 hAp hE7 hL7 hA7 hB7 hr7
      (try simp only [Act.put, List.getElem_toArray, List.getElem_cons_zero, List.getElem_cons_succ, List.setIfInBounds_toArray, List.set_cons_zero, List.set_cons_succ])
      refine wpDet_done (by kernel_rfl) (fun W9 hV => ?_) _
      obtain ⟨hL9, hA9, hs9, hB9⟩ := hV
      have hBf := hb5.trans hB9
      have hL9' : LP W9 g r7 (playJ s0 ls (k + 1)) := by rw [HS.out]; exact hL9
      clear hL5 hA5 hrd5 hL9 hA9 hb5
      go_wp2_with fail
      exact ⟨⟨k + 1, r7, by omega, by go_num, hL9', hr70, hBf⟩, by simp [intOf]; omega⟩
    · obtain rfl : k = m := by omega
      clear h hsm
      go_wp2_with fail
      go_ret
      exact ⟨_, rfl, g, r, rfl, by rw [HS00.out]; exact hL, by rw [hB]; exact hg, by rw [hB]; exact hr, by rw [hB]; exact hb⟩

end Go.Proofs.Ytcnkpgbmegppbaa.M
