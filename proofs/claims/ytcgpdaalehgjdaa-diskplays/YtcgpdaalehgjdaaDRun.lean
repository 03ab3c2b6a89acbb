/-
  Own text: calls that can be read; the contracts of the law's made and short.
-/
import Derived.Test.YtcgpdaalehgjdaaDGen
namespace Go.Proofs.Ytcgpdaalehgjdaa.M
open Go.ChangeShapes Go.WideShapes Go.ChangeAt Go.RowKit

/-- A call as it lies in memory, and what its two slices hold. -/
structure Dv where
  op : Int
  i : Int
  n : Int
  bq : Option Addr
  bl : Nat
  bc : Nat
  kq : Option Addr
  kl : Nat
  kc : Nat
  b : List Int
  keep : List Int

def Dv.z0 : Dv := ⟨0, 0, 0, none, 0, 0, none, 0, 0, [], []⟩

def Dv.q (x : Dv) : Dq := ⟨x.op, x.i, x.n, x.b, x.keep⟩

/-- Its slices can be read. -/
structure Dv.rd (w : World) (x : Dv) : Prop where
  b : Rd .u8 w x.bq x.bl x.bc x.b
  k : Rd .i64 w x.kq x.kl x.kc x.keep
  n : x.n ≤ 9223372036854775807
  y : By x.b

theorem Dv.rd.below {w w' : World} {x : Dv} (h : x.rd w) (hb : Below w.heap.size w w') : x.rd w' := ⟨h.b.below' hb, h.k.below' hb, h.n, h.y⟩

theorem Rd.blk {k : IntKind} {w : World} {p : Option Addr} {n c : Nat} {xs : List Int} (h : Rd k w p n c xs) {x : Addr} (e : p = some x) (h0 : 0 < n) : x.block < w.heap.size := by
  obtain ⟨b, o, e', hc⟩ := h.cells h0
  rw [e] at e'
  cases e'
  exact World.block_lt_of_cell? _ _ (hc 0 h0)

theorem Rd.low {k : IntKind} {w w' : World} {p : Option Addr} {n c : Nat} {xs : List Int} (h : Rd k w p n c xs) {B : Nat} (hb : Below B w w') (hB : w.heap.size ≤ B) : Rd k w' p n c xs :=
  ⟨h.len, h.cap, h.nil, fun h0 => by
    obtain ⟨b, o, e, hc⟩ := h.cells h0
    exact ⟨b, o, e, fun i hi => by rw [hb.cell (p := ⟨b, o + i, none⟩) (Nat.lt_of_lt_of_le (World.block_lt_of_cell? _ _ (hc i hi)) hB)]; exact hc i hi⟩⟩

theorem cell_belowB {B : Nat} {w w' : World} {p : Addr} {v : Value} (hb : Below B w w') (hp : p.block < B) (h : w.cell? p = some v) : w'.cell? p = some v := by rw [hb.cell hp]; exact h

/-- A call's five cells. -/
structure Dv.at (w : World) (b o : Nat) (x : Dv) : Prop where
  c0 : w.cell? ⟨b, o, none⟩ = some (.int .i64 x.op)
  c1 : w.cell? ⟨b, o + 1, none⟩ = some (.int .i64 x.i)
  c2 : w.cell? ⟨b, o + 2, none⟩ = some (.int .i64 x.n)
  c3 : w.cell? ⟨b, o + 3, none⟩ = some (.slice x.bq x.bl x.bc)
  c4 : w.cell? ⟨b, o + 4, none⟩ = some (.slice x.kq x.kl x.kc)

theorem Dv.at.below {w w' : World} {b o : Nat} {x : Dv} (h : x.at w b o) {B : Nat} (hb : Below B w w') (hB : b < B) : x.at w' b o :=
  ⟨cell_belowB hb hB h.c0, cell_belowB hb hB h.c1, cell_belowB hb hB h.c2, cell_belowB hb hB h.c3, cell_belowB hb hB h.c4⟩

/-- A slice of calls that can be read. -/
structure RdQ (w : World) (p : Option Addr) (n c : Nat) (ls : List Dv) : Prop where
  len : ls.length = n
  cells : 0 < n → ∃ b o, p = some ⟨b, o, none⟩ ∧ ∀ j, j < n → (ls.getD j .z0).at w b (o + j * 5)
  rd : ∀ j, j < n → (ls.getD j .z0).rd w

theorem RdQ.lt {w : World} {p : Option Addr} {n c : Nat} {ls : List Dv} (_h : RdQ w p n c ls) {b o : Nat} (hc : (ls.getD 0 .z0).at w b (o + 0 * 5)) : b < w.heap.size := World.block_lt_of_cell? _ _ hc.c0

theorem RdQ.below {w w' : World} {p : Option Addr} {n c : Nat} {ls : List Dv} (h : RdQ w p n c ls) (hb : Below w.heap.size w w') : RdQ w' p n c ls :=
  ⟨h.len, fun h0 => by
    obtain ⟨b, o, e, hc⟩ := h.cells h0
    exact ⟨b, o, e, fun j hj => (hc j hj).below hb (World.block_lt_of_cell? _ _ (hc j hj).c0)⟩, fun j hj => (h.rd j hj).below hb⟩

/-- The disk behind the first k of the calls. -/
def playN (m : PD) (ls : List Dv) : Nat → PD
  | 0 => m
  | k + 1 => ((playN m ls k).step (ls.getD k .z0).q).1

/-- How many bytes the first k have. -/
def bytesN (ls : List Dv) : Nat → Nat
  | 0 => 0
  | k + 1 => bytesN ls k + (ls.getD k .z0).bl

/-- Their slices are not long. -/
def Small (ls : List Dv) : Prop := ∀ j, j < ls.length → (ls.getD j .z0).bl ≤ 16384 ∧ (ls.getD j .z0).kl ≤ 16384

theorem bytesN_le {ls : List Dv} (h : Small ls) : ∀ k, k ≤ ls.length → bytesN ls k ≤ k * 16384
  | 0, _ => Nat.zero_le _
  | k + 1, hk => by
    have h1 := bytesN_le h k (by omega)
    have h2 := (h k (by omega)).1
    show bytesN ls k + (ls.getD k .z0).bl ≤ _
    omega

theorem playN_ok {w : World} {p : Option Addr} {n c : Nat} {ls : List Dv} (h : RdQ w p n c ls) (hs : Small ls) {m : PD} {s : Nat} (hm : m.ok s) : ∀ k, k ≤ n → (playN m ls k).ok (s + bytesN ls k)
  | 0, _ => hm
  | k + 1, hk => by
    have h1 := playN_ok h hs hm k (by omega)
    have h2 := h.rd k (by omega)
    have h3 := hs k (by rw [h.len]; omega)
    have h4 := h1.step (ls.getD k .z0).q (by show (ls.getD k .z0).keep.length ≤ _; rw [h2.k.len]; exact h3.2) h2.n
    have e : (ls.getD k .z0).q.b.length = (ls.getD k .z0).bl := h2.b.len
    rw [e, Nat.add_assoc] at h4
    exact h4

theorem pd0_ok {r : Nat} (h1 : 1 ≤ r) (h2 : r ≤ 4194304) : (pd0 r).ok 0 := ⟨h1, h2, fun _ _ => Nat.le_refl _, fun _ _ => Nat.le_refl _, Nat.zero_le _, Nat.zero_le _⟩

/-- What changes of disk a alone leaves all that was there ahead of it. -/
theorem Ch.mine_below {own : Nat → Nat} {a g B : Nat} {w w' : World} (h : Ch (Mine own a g) w w') (hB : B ≤ w.heap.size) (hg : B ≤ g) (ho : ∀ k, k < B → own k = 0) : Below B w w' :=
  h.below hB fun k hk => by
    rcases hk with rfl | ⟨i, _, e⟩
    · exact hg
    · refine Nat.le_of_not_lt fun hlt => ?_
      rw [ho k hlt] at e
      exact mark_pos a i e.symm

set_option maxRecDepth 20000 in
set_option maxHeartbeats 1000000 in
theorem made_law (a : Nat) (w : World) (p : Option Addr) (n c : Nat) (ls : List Dv) (h : RdQ w p n c ls) (hn : n ≤ 150) (hs : Small ls) :
    Calls Try.prog 22 #[.slice p n c] w fun e w' => e = .returned (.pointer (some ⟨w.heap.size, 0, none⟩)) ∧ (∃ own d, DA w' w.heap.size own a w.heap.size d (playN (pd0 2097152) ls n) ∧ ∀ k, k < w.heap.size → own k = 0) ∧ Below w.heap.size w w' := by
  have hN := New_ok w a 2097152 (by decide) (by decide)
  go_enter Try.func22, Try.ntmps22
  go_wp2_with fail
  refine hN.mono ?_
  rintro e w1 ⟨rfl, hA1, hb1⟩
  go_wp2_with fail
  go_loopw [13] (fun i wr => ∃ (k : Nat) (own : Nat → Nat) (d : Dk), k ≤ n ∧ i = .int .i64 k ∧ DA wr w.heap.size own a w.heap.size d (playN (pd0 2097152) ls k) ∧ (∀ j, j < w.heap.size → own j = 0) ∧ Below w.heap.size w wr) (fun i _ => n - (intOf i).toNat)
  case atStart => exact ⟨0, _, _, Nat.zero_le _, rfl, hA1, fun _ _ => rfl, hb1⟩
  case round =>
    clear hA1 hb1 hN
    obtain ⟨k, own, d, hk, rfl, hA, ho, hb⟩ := hrel
    by_cases hkn : k < n
    · have hki : (k : Int) < (n : Int) := by omega
      have hok := playN_ok h hs (pd0_ok (r := 2097152) (by decide) (by decide)) k hk
      have hby := bytesN_le hs k (by rw [h.len]; exact hk)
      obtain ⟨b, o, rfl, hc⟩ := h.cells (by omega)
      have hck := hc k hkn
      have hblt := World.block_lt_of_cell? _ _ hck.c0
      have hck2 := hck.below hb hblt
      have hrd0 := h.rd k hkn
      have hrd : Dv.rd wr (ls.getD k .z0) := ⟨hrd0.b.low hb (Nat.le_refl _), hrd0.k.low hb (Nat.le_refl _), hrd0.n, hrd0.y⟩
      have hsm := hs k (by rw [h.len]; exact hkn)
      have HS : Hid (playN (pd0 2097152) ls (k + 1) = ((playN (pd0 2097152) ls k).step (ls.getD k .z0).q).1) := rfl
      clear hc hck h hs
      generalize ls.getD k .z0 = x at *
      obtain ⟨op, i, m, bq, bl, bc, kq, kl, kc, xb, xk⟩ := x
      obtain ⟨c0, c1, c2, c3, c4⟩ := hck2
      obtain ⟨rb, rk, _, _⟩ := hrd
      dsimp only at *
      have hbD : Below wr.heap.size wr (wr.alloc (.cells #[.int .i64 op, .int .i64 i, .int .i64 m, .slice bq bl bc, .slice kq kl kc] 35)) := (Below.refl _ _).alloc (Nat.le_refl _) _
      have hgs := hb.size
      have hD := does_any _ w.heap.size own a w.heap.size d _ _ (hA.below hbD) hok (by omega) (Nat.le_trans hgs hbD.size) op i m bq bl bc kq kl kc xb xk (rb.below' hbD) (rk.below' hbD)
        (fun x e h0 => Nat.ne_of_lt (hrd0.b.blk e h0)) (fun x e h0 => Nat.ne_of_lt (hrd0.k.blk e h0)) hsm.1 hsm.2
      clear rb rk hA hrd0
      go_wp2_with fail
      refine hD.mono ?_
      rintro e w2 ⟨rfl, hAf⟩
      obtain ⟨own2, d2, hA2, ho2, hc2⟩ := hAf.before hbD
      have hB2 := hb.trans (hc2.mine_below hgs (Nat.le_refl _) ho)
      clear hD hAf
      go_wp2_with fail
      go_roundw
      case rel => exact ⟨k + 1, own2, d2, by omega, by go_num, by rw [HS.out]; exact hA2, fun j hj => (ho2 j (by omega)).trans (ho j hj), hB2⟩
      case measure => simp [intOf]; omega
    · obtain rfl : k = n := by omega
      clear h hs
      go_wp2_with fail
      go_ret
      exact ⟨rfl, ⟨own, d, hA, ho⟩, hb⟩

end Go.Proofs.Ytcgpdaalehgjdaa.M
