/-
  Own text: what the form tells of arguments that are calls of the statements over links, and lists of them.
-/
import Derived.Test.YtmnipfdcbmamnaaOpen
import Derived.Test.YtmnipfdcbmamnaaNNet
import Derived.Deep.Slices
import Derived.SizedLaws
namespace Go.Proofs.Ytmnipfdcbmamnaa.M
open Go.ChangeShapes Go.WideShapes Go.ChangeAt Go.RowKit
set_option maxRecDepth 20000

/-- A call: its numbers, its slice, and the slice's bytes. -/
structure Nd where
  op : Int
  i : Int
  x : Int
  y : Int
  bq : Option Addr
  bl : Nat
  bc : Nat
  s : Int
  xb : List Int

def Nd.z0 : Nd := ⟨0, 0, 0, 0, none, 0, 0, 0, []⟩

def Nd.rd (w : World) (z : Nd) : Prop := Rd .u8 w z.bq z.bl z.bc z.xb ∧ By z.xb ∧ Wf z.op ∧ Wf z.i ∧ Wf z.x ∧ Wf z.y ∧ (Lit.int .u64 z.s).wf = true

/-- Where a call lies. -/
def Nd.at (w : World) (b o : Nat) (z : Nd) : Prop := w.cell? ⟨b, o, none⟩ = some (.int .i64 z.op) ∧ w.cell? ⟨b, o + 1, none⟩ = some (.int .i64 z.i) ∧ w.cell? ⟨b, o + 2, none⟩ = some (.int .i64 z.x) ∧ w.cell? ⟨b, o + 3, none⟩ = some (.int .i64 z.y) ∧ w.cell? ⟨b, o + 4, none⟩ = some (.slice z.bq z.bl z.bc) ∧ w.cell? ⟨b, o + 5, none⟩ = some (.int .u64 z.s)

/-- A list of calls. -/
structure RdN (w : World) (p : Option Addr) (n c : Nat) (ls : List Nd) : Prop where
  len : ls.length = n
  cells : 0 < n → ∃ b o, p = some ⟨b, o, none⟩ ∧ ∀ i, i < n → (ls.getD i .z0).at w b (o + i * 6)
  rd : ∀ j, j < n → (ls.getD j .z0).rd w

theorem sl_cell {H : Type} {enc : TypeId × Value → H} {P : Program} {t e : TypeId} {W : World} {fuel : Nat} {v : Value} {x : DataW H × List MemPlace} (ht : P.underlying t = some (.slice e)) (h : DataW.trod enc P W 0 (fun _ => true) true fuel t [v] = some x) : ∃ a l c, v = .slice a l c := by
  rcases Deep.open_slice ht h with ⟨hcs, _⟩ | ⟨a, l, c, m, n, D, Pl, hcs, _⟩
  · injection hcs with hcs
    exact ⟨_, _, _, hcs⟩
  · injection hcs with hcs
    exact ⟨_, _, _, hcs⟩

/-- Six cells that were read as a call. -/
theorem six_do {H : Type} {enc : TypeId × Value → H} {W : World} {fuel : Nat} {cs : List Value} {x : DataW H × List MemPlace} (hlen : cs.length = 6)
    (h : DataW.trod enc Try.prog W 0 (fun _ => true) true fuel 37 cs = some x) : ∃ z : Nd, cs = [.int .i64 z.op, .int .i64 z.i, .int .i64 z.x, .int .i64 z.y, .slice z.bq z.bl z.bc, .int .u64 z.s] ∧ z.rd W := by
  obtain ⟨xs, k, _, _, _, hxl, hff⟩ := DataW.trod_struct Try.underlying37 h
  have i1 : Try.prog.cellsOf 3 = 1 := by kernel_rfl
  have b1 : Try.prog.cellsOf 34 = 1 := by kernel_rfl
  have o1 : Try.prog.cellsOf 35 = 1 := by kernel_rfl
  have m2 : Try.prog.cellsOf 33 = 2 := by kernel_rfl
  have g0 : DataW.trod enc Try.prog W 0 (fun _ => true) true k 3 (List.take (Try.prog.cellsOf 3) (List.drop 0 cs)) = xs[0]? := hff 0 _ rfl
  have g1 : DataW.trod enc Try.prog W 0 (fun _ => true) true k 3 (List.take (Try.prog.cellsOf 3) (List.drop 1 cs)) = xs[1]? := hff 1 _ rfl
  have g2 : DataW.trod enc Try.prog W 0 (fun _ => true) true k 33 (List.take (Try.prog.cellsOf 33) (List.drop 2 cs)) = xs[2]? := hff 2 _ rfl
  have g3 : DataW.trod enc Try.prog W 0 (fun _ => true) true k 34 (List.take (Try.prog.cellsOf 34) (List.drop 4 cs)) = xs[3]? := hff 3 _ rfl
  have g4 : DataW.trod enc Try.prog W 0 (fun _ => true) true k 35 (List.take (Try.prog.cellsOf 35) (List.drop 5 cs)) = xs[4]? := hff 4 _ rfl
  rw [i1] at g0 g1
  rw [m2] at g2
  rw [b1] at g3
  rw [o1] at g4
  clear hff h
  have hxl5 : xs.length = 5 := hxl
  match cs, hlen, xs, hxl5 with
  | [v0, v1, v2, v3, v4, v5], _, [y0, y1, y2, y3, y4], _ =>
    simp at g0 g1 g2 g3 g4
    obtain ⟨us, kk, _, _, _, hul, huf⟩ := DataW.trod_struct Try.underlying33 g2
    have f0 : DataW.trod enc Try.prog W 0 (fun _ => true) true kk 3 (List.take (Try.prog.cellsOf 3) (List.drop 0 [v2, v3])) = us[0]? := huf 0 _ rfl
    have f1 : DataW.trod enc Try.prog W 0 (fun _ => true) true kk 3 (List.take (Try.prog.cellsOf 3) (List.drop 1 [v2, v3])) = us[1]? := huf 1 _ rfl
    rw [i1] at f0 f1
    have hul4 : us.length = 2 := hul
    match us, hul4 with
    | [u0, u1], _ =>
      simp at f0 f1
      obtain ⟨z0, e0, r0⟩ := DataW.trod_int Try.underlying3 g0
      obtain ⟨z1, e1, r1⟩ := DataW.trod_int Try.underlying3 g1
      obtain ⟨z2, e2, r2⟩ := DataW.trod_int Try.underlying3 f0
      obtain ⟨z3, e3, r3⟩ := DataW.trod_int Try.underlying3 f1
      obtain ⟨a4, l4, c4, e4⟩ := sl_cell Try.underlying34 g3
      obtain ⟨z5, e5, r5⟩ := DataW.trod_int Try.underlying35 g4
      simp at e0 e1 e2 e3 e5
      subst e0 e1 e2 e3 e4 e5
      obtain ⟨xb, rb, wb⟩ := open_rd (d := y3.1) (p := y3.2) Try.underlying34 Try.underlying5 (by kernel_rfl) ⟨k, g3⟩
      exact ⟨⟨z0, z1, z2, z3, a4, l4, c4, z5, xb⟩, rfl, rb, by_of_wf wb, r0.2, r1.2, r2.2, r3.2, r5.2⟩

theorem open_nd {H : Type} {enc : TypeId × Value → H} {W : World} {v : Value} {d : DataW H} {p : List MemPlace}
    (h : DataW.Trod enc Try.prog W 0 (fun _ => true) true 37 v d p) : ∃ z : Nd, v = .agg #[.int .i64 z.op, .int .i64 z.i, .int .i64 z.x, .int .i64 z.y, .slice z.bq z.bl z.bc, .int .u64 z.s] ∧ z.rd W := by
  obtain ⟨fuel, hf⟩ := h
  obtain ⟨xs, k, _, _, hlen, hxl, hff⟩ := DataW.trod_struct Try.underlying37 hf
  have h8 : Try.prog.cellsOf 37 = 6 := by kernel_rfl
  rw [h8] at hlen
  obtain ⟨z, e, hr⟩ := six_do hlen hf
  refine ⟨z, ?_, hr⟩
  cases v with
  | agg cs =>
    obtain ⟨cs⟩ := cs
    simp only [Value.cells] at e
    rw [e]
  | _ => simp [Value.cells] at hlen

theorem open_nds {H : Type} {enc : TypeId × Value → H} {W : World} {a : Option Addr} {len cap : Nat} {d : DataW H} {pl : List MemPlace}
    (h : DataW.Trod enc Try.prog W 0 (fun _ => true) true 22 (.slice a len cap) d pl) : ∃ ls, RdN W a len cap ls := by
  obtain ⟨fuel, hf⟩ := h
  have hce : Try.prog.cellsOf 37 = 6 := by kernel_rfl
  rcases Deep.open_slice Try.underlying22 hf with ⟨hcs, _⟩ | ⟨ad, l, c, m, n, D, Pl, hcs, _, hl, hm, hmm, hxe, hx⟩
  · injection hcs with hcs
    injection hcs with e1 e2 e3
    subst e1 e2 e3
    exact ⟨[], rfl, fun h => absurd h (Nat.lt_irrefl _), fun j hj => absurd hj (Nat.not_lt_zero _)⟩
  · injection hcs with hcs
    injection hcs with e1 e2 e3
    subst e1 e2 e3
    simp only [if_true] at hmm
    subst hmm
    have each : ∀ i, i < m → ∃ z : Nd, W.cell? (ad.add (i * 6)) = some (.int .i64 z.op) ∧ W.cell? (ad.add (i * 6 + 1)) = some (.int .i64 z.i) ∧ W.cell? (ad.add (i * 6 + 2)) = some (.int .i64 z.x) ∧ W.cell? (ad.add (i * 6 + 3)) = some (.int .i64 z.y) ∧ W.cell? (ad.add (i * 6 + 4)) = some (.slice z.bq z.bl z.bc) ∧ W.cell? (ad.add (i * 6 + 5)) = some (.int .u64 z.s) ∧ z.rd W := by
      intro i hi
      obtain ⟨cs', h1, h2⟩ := hx i hi
      rw [hce] at h1
      obtain ⟨_, hlen, hcell⟩ := World.cells?_some h1
      obtain ⟨z, e, hr⟩ := six_do hlen h2
      subst e
      have q0 := hcell 0 (by omega)
      have q1 := hcell 1 (by omega)
      have q2 := hcell 2 (by omega)
      have q3 := hcell 3 (by omega)
      have q4 := hcell 4 (by omega)
      have q5 := hcell 5 (by omega)
      rw [Deep.add_add] at q0 q1 q2 q3 q4 q5
      exact ⟨z, by simpa using q0, by simpa using q1, by simpa using q2, by simpa using q3, by simpa using q4, by simpa using q5, hr⟩
    obtain ⟨f, hfv⟩ := @Deep.choose_lt Nd ⟨.z0⟩ _ _ each
    have e : ∀ i, i < len → ((List.range len).map f).getD i .z0 = f i := fun i hi => by rw [List.getD_eq_getElem?_getD, List.getElem?_map, List.getElem?_range hi]; rfl
    refine ⟨(List.range len).map f, by simp, fun hn => ?_, fun j hj => by rw [e j hj]; exact (hfv j (by omega)).2.2.2.2.2.2⟩
    obtain ⟨b, o, spot⟩ := ad
    have h0 := (hfv 0 (by omega)).1
    have hspot : spot = none := by simpa [Addr.add] using World.cell?_spot h0
    subst hspot
    refine ⟨b, o, rfl, fun i hi => ?_⟩
    obtain ⟨k0, k1, k2, k3, k4, k5, _⟩ := hfv i (by omega)
    rw [Addr.add_lit] at k0 k1 k2 k3 k4 k5
    rw [e i hi]
    exact ⟨k0, by rw [Nat.add_assoc]; exact k1, by rw [Nat.add_assoc]; exact k2, by rw [Nat.add_assoc]; exact k3, by rw [Nat.add_assoc]; exact k4, by rw [Nat.add_assoc]; exact k5⟩

end Go.Proofs.Ytmnipfdcbmamnaa.M
