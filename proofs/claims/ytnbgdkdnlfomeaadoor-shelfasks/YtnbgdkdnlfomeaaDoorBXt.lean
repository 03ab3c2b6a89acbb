/-
  Own text: the library's tables of utf8, as the rows list them, lie in memory.
  Own text: what the form tells of arguments that are keys, requests, records and calls.
  Own text: what the form tells of arguments that are tables, and lists of calls.
  Own text: contracts of Table and Whole; how many keys a shelf has.
  Own text: several shelves beside one another: each block bears a mark that tells whose it is.
  Own text: contracts of Known and Of.
  Own text: tails of which each record may stand behind those ahead of it; Known, Next, Add, Cut, Fold beside other shelves.
  Own text: Behind, Cut, Fold beside other shelves; lists that lie beside them.
  Own text: sums that a table can tell; sums made of that table tell the same.
  Own text: the table of sums is right; sums made of it tell the same.
  Own text: shelves whose sums a table can tell; From and Check of such tables.
-/
import Derived.Test.YtnbgdkdnlfomeaaDoorBAw
import Derived.Test.YtnbgdkdnlfomeaaDoorRows
import Derived.Lib.LaidU8T
import Derived.PinnedBridge
import Derived.Deep.DeepHandedRow
import Derived.Lay
import Derived.MakeChecks
import Derived.Test.YtnbgdkdnlfomeaaDoorBDo
import Derived.Test.YtnbgdkdnlfomeaaDoorOpen
import Derived.Deep.Slices
import Derived.Test.YtnbgdkdnlfomeaaDoorBMd
import Derived.Test.YtnbgdkdnlfomeaaDoorBTbl
namespace Go.Proofs.YtnbgdkdnlfomeaaDoor
open Go.ChangeShapes Go.WideShapes Go.ChangeAt Go.RowKit M Go.Shelf Go.Proofs

theorem extraU : U8Extra Tryd.prog renU where
  n3 := by kernel_rfl
  n4 := by kernel_rfl
  y3 := by kernel_rfl
  y4 := by kernel_rfl
  c5 := by kernel_rfl
  c119 := by kernel_rfl
  c138 := by kernel_rfl

theorem accept_eq : (Rows.laid_unicode_utf8_acceptRanges : DataW Unit) = Lib.acceptData := by kernel_rfl

theorem first_eq : Rows.laid_unicode_utf8_first = Lib.firstData := Pinned.utf8First_eq

theorem tabs_of {W : World} (h : laidMetH Tryd.prog Rows.shelfAsksRow.laid W) : Tabs W := by
  rw [MakeChecks.laidMetH_plain _ _ _ (by kernel_rfl)] at h
  have h1 := Lib.laidMet.reads h (n := "unicode/utf8.first") (d := Rows.laid_unicode_utf8_first) (List.mem_cons_of_mem _ (List.mem_cons_self ..))
  have h2 := Lib.laidMet.reads h (n := "unicode/utf8.acceptRanges") (d := Rows.laid_unicode_utf8_acceptRanges) (List.mem_cons_self ..)
  rw [first_eq] at h1
  rw [accept_eq] at h2
  exact utf8Tabs_of_readsT (U8Types.of196 laysU) extraU h1 h2

end Go.Proofs.YtnbgdkdnlfomeaaDoor

namespace Go.Proofs.YtnbgdkdnlfomeaaDoor.M
open Go.ChangeShapes Go.WideShapes Go.ChangeAt Go.RowKit
set_option maxRecDepth 20000

/-- A number that fits. -/
def Wf (x : Int) : Prop := (Lit.int .i64 x).wf = true

theorem byt_of_wf {xs : List Int} (h : ∀ x ∈ xs, (Lit.int .u8 x).wf = true) : Byt xs := fun x hx => by
  have h1 := wf_bounds (h x hx)
  have h2 : IntKind.u8.min = 0 := rfl
  have h3 : IntKind.u8.max = 255 := rfl
  omega

/-- The cells of an array of integers that reads as something. -/
theorem trod_nums {H : Type} {enc : TypeId × Value → H} {P : Program} {t e : TypeId} {k : IntKind} {n : Nat} (ht : P.underlying t = some (.array n e)) (he : P.underlying e = some (.int k)) (hc : P.cellsOf e = 1) (hct : P.cellsOf t = n) {W : World} {fuel : Nat} {cs : List Value} {x : DataW H × List MemPlace}
    (h : DataW.trod enc P W 0 (fun _ => true) true fuel t cs = some x) : ∃ xs : List Int, xs.length = n ∧ cs = xs.map (Value.int k) ∧ ∀ y ∈ xs, (Lit.int k y).wf = true := by
  obtain ⟨ys, m, _, _, hl, hyl, hel⟩ := DataW.trod_array ht h
  rw [hct] at hl
  have each : ∀ i, i < n → ∃ a : Int, cs[i]? = some (.int k a) ∧ (Lit.int k a).wf = true := by
    intro i hi
    have h1 := hel i hi
    rw [hc, Nat.mul_one, List.getElem?_eq_getElem (by omega)] at h1
    obtain ⟨a, ea, _, wa⟩ := DataW.trod_int he h1
    refine ⟨a, ?_, wa⟩
    have h3 : (List.take 1 (List.drop i cs))[0]? = some (.int k a) := by rw [ea]; rfl
    rw [List.getElem?_take, if_pos (by decide), List.getElem?_drop, Nat.add_zero] at h3
    exact h3
  refine ⟨cs.map intOf, by rw [List.length_map, hl], ?_, fun y hy => ?_⟩
  · apply List.ext_getElem?
    intro i
    rw [List.map_map, List.getElem?_map]
    rcases Nat.lt_or_ge i n with hi | hi
    · obtain ⟨a, ha, _⟩ := each i hi
      rw [ha]
      rfl
    · rw [List.getElem?_eq_none (by omega)]
      rfl
  · obtain ⟨u, hu, rfl⟩ := List.mem_map.1 hy
    obtain ⟨i, hi, rfl⟩ := List.getElem_of_mem hu
    obtain ⟨a, ha, wa⟩ := each i (by omega)
    rw [List.getElem?_eq_getElem hi] at ha
    rw [Option.some.inj ha]
    exact wa

theorem open_arr {H : Type} {enc : TypeId × Value → H} {P : Program} {t e : TypeId} {k : IntKind} {n : Nat} (ht : P.underlying t = some (.array n e)) (he : P.underlying e = some (.int k)) (hc : P.cellsOf e = 1) (hct : P.cellsOf t = n) {W : World} {r : Reach} {b0 : Nat} {v : Value} {d : DataW H} {p : List MemPlace}
    (hval : Value.okWide P W r b0 t v) (hd : DataW.Trod enc P W 0 (fun _ => true) true t v d p) : ∃ xs : List Int, v = .agg (nums k xs) ∧ xs.length = n ∧ ∀ x ∈ xs, (Lit.int k x).wf = true := by
  simp only [Value.okWide, ht] at hval
  obtain ⟨cs, rfl, h2, _⟩ := hval
  obtain ⟨fuel, hf⟩ := hd
  obtain ⟨xs, hl, hcs, hwf⟩ := trod_nums ht he hc hct hf
  refine ⟨xs, ?_, hl, hwf⟩
  have h3 : cs.toList = xs.map (Value.int k) := hcs
  unfold nums
  rw [← h3]

theorem open_key {H : Type} {enc : TypeId × Value → H} {W : World} {r : Reach} {b0 : Nat} {v : Value} {d : DataW H} {p : List MemPlace}
    (hval : Value.okWide Tryd.prog W r b0 28 v) (hd : DataW.Trod enc Tryd.prog W 0 (fun _ => true) true 28 v d p) : ∃ q : Nat, v = .agg #[.int .u8 (bt (q) 0), .int .u8 (bt (q) 1), .int .u8 (bt (q) 2), .int .u8 (bt (q) 3), .int .u8 (bt (q) 4), .int .u8 (bt (q) 5), .int .u8 (bt (q) 6), .int .u8 (bt (q) 7)] ∧ q < 18446744073709551616 := by
  obtain ⟨xs, rfl, hl, hwf⟩ := open_arr Tryd.underlying28 Tryd.underlying5 (by kernel_rfl) (by kernel_rfl) hval hd
  refine ⟨shN xs 8, ?_, sh_lt64 (byt_of_wf hwf)⟩
  rw [← nums_bt, eig_sh hl (byt_of_wf hwf)]

section
variable {H : Type} {enc : TypeId × Value → H} {W : World} {fuel : Nat} {cs : List Value} {x : DataW H × List MemPlace}

theorem key_cells (h : DataW.trod enc Tryd.prog W 0 (fun _ => true) true fuel 28 cs = some x) : ∃ n : Nat, n < 18446744073709551616 ∧ cs = [.int .u8 (bt n 0), .int .u8 (bt n 1), .int .u8 (bt n 2), .int .u8 (bt n 3), .int .u8 (bt n 4), .int .u8 (bt n 5), .int .u8 (bt n 6), .int .u8 (bt n 7)] := by
  obtain ⟨xs, hl, e, hwf⟩ := trod_nums Tryd.underlying28 Tryd.underlying5 (by kernel_rfl) (by kernel_rfl) h
  refine ⟨shN xs 8, sh_lt64 (byt_of_wf hwf), ?_⟩
  rw [e]
  conv => lhs; rw [← eig_sh hl (byt_of_wf hwf), eigL_bt]
  rfl

theorem req_cells (h : DataW.trod enc Tryd.prog W 0 (fun _ => true) true fuel 30 cs = some x) : ∃ c q : Int, Wf c ∧ Wf q ∧ cs = [.int .i64 c, .int .i64 q] := by
  obtain ⟨xs, k, _, _, hlen, hxl, hff⟩ := DataW.trod_struct Tryd.underlying30 h
  have i1 : Tryd.prog.cellsOf 3 = 1 := by kernel_rfl
  have q2 : Tryd.prog.cellsOf 30 = 2 := by kernel_rfl
  have g0 : DataW.trod enc Tryd.prog W 0 (fun _ => true) true k 3 (List.take (Tryd.prog.cellsOf 3) (List.drop 0 cs)) = xs[0]? := hff 0 _ rfl
  have g1 : DataW.trod enc Tryd.prog W 0 (fun _ => true) true k 3 (List.take (Tryd.prog.cellsOf 3) (List.drop 1 cs)) = xs[1]? := hff 1 _ rfl
  rw [i1] at g0 g1
  rw [q2] at hlen
  clear hff h
  have hxl2 : xs.length = 2 := hxl
  match cs, hlen, xs, hxl2 with
  | [v0, v1], _, [y0, y1], _ =>
    simp at g0 g1
    obtain ⟨z0, e0, r0⟩ := DataW.trod_int Tryd.underlying3 g0
    obtain ⟨z1, e1, r1⟩ := DataW.trod_int Tryd.underlying3 g1
    simp at e0 e1
    subst e0 e1
    exact ⟨z0, z1, r0.2, r1.2, rfl⟩

/-- A record that was handed in. -/
def Rc.fit (r : Rc) : Prop := r.k < 18446744073709551616 ∧ Wf r.ix ∧ Wf r.ep ∧ Wf r.v ∧ Wf r.c ∧ Wf r.q ∧ r.s.size ≤ 9223372036854775807

theorem rec_cells (h : DataW.trod enc Tryd.prog W 0 (fun _ => true) true fuel 64 cs = some x) : ∃ r : Rc, r.fit ∧ cs = [.int .i64 r.ix, .int .i64 r.ep, .int .u8 (bt r.k 0), .int .u8 (bt r.k 1), .int .u8 (bt r.k 2), .int .u8 (bt r.k 3), .int .u8 (bt r.k 4), .int .u8 (bt r.k 5), .int .u8 (bt r.k 6), .int .u8 (bt r.k 7), .int .i64 r.v, .string r.s, .int .i64 r.c, .int .i64 r.q] := by
  obtain ⟨xs, k, _, _, hlen, hxl, hff⟩ := DataW.trod_struct Tryd.underlying64 h
  have i1 : Tryd.prog.cellsOf 3 = 1 := by kernel_rfl
  have s1 : Tryd.prog.cellsOf 9 = 1 := by kernel_rfl
  have k8 : Tryd.prog.cellsOf 28 = 8 := by kernel_rfl
  have q2 : Tryd.prog.cellsOf 30 = 2 := by kernel_rfl
  have x14 : Tryd.prog.cellsOf 64 = 14 := by kernel_rfl
  have g0 : DataW.trod enc Tryd.prog W 0 (fun _ => true) true k 3 (List.take (Tryd.prog.cellsOf 3) (List.drop 0 cs)) = xs[0]? := hff 0 _ rfl
  have g1 : DataW.trod enc Tryd.prog W 0 (fun _ => true) true k 3 (List.take (Tryd.prog.cellsOf 3) (List.drop 1 cs)) = xs[1]? := hff 1 _ rfl
  have g2 : DataW.trod enc Tryd.prog W 0 (fun _ => true) true k 28 (List.take (Tryd.prog.cellsOf 28) (List.drop 2 cs)) = xs[2]? := hff 2 _ rfl
  have g3 : DataW.trod enc Tryd.prog W 0 (fun _ => true) true k 3 (List.take (Tryd.prog.cellsOf 3) (List.drop 10 cs)) = xs[3]? := hff 3 _ rfl
  have g4 : DataW.trod enc Tryd.prog W 0 (fun _ => true) true k 9 (List.take (Tryd.prog.cellsOf 9) (List.drop 11 cs)) = xs[4]? := hff 4 _ rfl
  have g5 : DataW.trod enc Tryd.prog W 0 (fun _ => true) true k 30 (List.take (Tryd.prog.cellsOf 30) (List.drop 12 cs)) = xs[5]? := hff 5 _ rfl
  rw [i1] at g0 g1 g3
  rw [k8] at g2
  rw [s1] at g4
  rw [q2] at g5
  rw [x14] at hlen
  clear hff h
  have hxl2 : xs.length = 6 := hxl
  match cs, hlen, xs, hxl2 with
  | [v0, v1, v2, v3, v4, v5, v6, v7, v8, v9, v10, v11, v12, v13], _, [y0, y1, y2, y3, y4, y5], _ =>
    simp at g0 g1 g2 g3 g4 g5
    obtain ⟨z0, e0, r0⟩ := DataW.trod_int Tryd.underlying3 g0
    obtain ⟨z1, e1, r1⟩ := DataW.trod_int Tryd.underlying3 g1
    obtain ⟨z2, r2, e2⟩ := key_cells g2
    obtain ⟨z3, e3, r3⟩ := DataW.trod_int Tryd.underlying3 g3
    obtain ⟨z4, e4, _, l4⟩ := DataW.trod_string Tryd.underlying9 g4
    obtain ⟨z5, z6, r5, r6, e5⟩ := req_cells g5
    simp at e0 e1 e3 e4
    simp only [List.cons.injEq, and_true] at e2 e5
    obtain ⟨rfl, rfl, rfl, rfl, rfl, rfl, rfl, rfl⟩ := e2
    obtain ⟨rfl, rfl⟩ := e5
    subst e0 e1 e3 e4
    exact ⟨⟨z0, z1, z2, z3, z4, z5, z6⟩, ⟨r2, r0.2, r1.2, r3.2, r5, r6, l4⟩, rfl⟩

/-- A call that was handed in. -/
def Dv.fit (d : Dv) : Prop := d.k < 18446744073709551616 ∧ Wf d.op ∧ Wf d.ep ∧ Wf d.i ∧ Wf d.c ∧ Wf d.q ∧ d.s.size ≤ 9223372036854775807 ∧ d.x.fit

theorem dv_cells (h : DataW.trod enc Tryd.prog W 0 (fun _ => true) true fuel 73 cs = some x) : ∃ d : Dv, d.fit ∧ cs = [.int .i64 d.op, .int .i64 d.ep, .int .i64 d.i, .bool d.nr, .int .u8 (bt d.k 0), .int .u8 (bt d.k 1), .int .u8 (bt d.k 2), .int .u8 (bt d.k 3), .int .u8 (bt d.k 4), .int .u8 (bt d.k 5), .int .u8 (bt d.k 6), .int .u8 (bt d.k 7), .string d.s, .int .i64 d.c, .int .i64 d.q, .int .i64 d.x.ix, .int .i64 d.x.ep, .int .u8 (bt d.x.k 0), .int .u8 (bt d.x.k 1), .int .u8 (bt d.x.k 2), .int .u8 (bt d.x.k 3), .int .u8 (bt d.x.k 4), .int .u8 (bt d.x.k 5), .int .u8 (bt d.x.k 6), .int .u8 (bt d.x.k 7), .int .i64 d.x.v, .string d.x.s, .int .i64 d.x.c, .int .i64 d.x.q] := by
  obtain ⟨xs, k, _, _, hlen, hxl, hff⟩ := DataW.trod_struct Tryd.underlying73 h
  have i1 : Tryd.prog.cellsOf 3 = 1 := by kernel_rfl
  have s1 : Tryd.prog.cellsOf 9 = 1 := by kernel_rfl
  have k8 : Tryd.prog.cellsOf 28 = 8 := by kernel_rfl
  have q2 : Tryd.prog.cellsOf 30 = 2 := by kernel_rfl
  have x14 : Tryd.prog.cellsOf 64 = 14 := by kernel_rfl
  have b1 : Tryd.prog.cellsOf 4 = 1 := by kernel_rfl
  have d29 : Tryd.prog.cellsOf 73 = 29 := by kernel_rfl
  have g0 : DataW.trod enc Tryd.prog W 0 (fun _ => true) true k 3 (List.take (Tryd.prog.cellsOf 3) (List.drop 0 cs)) = xs[0]? := hff 0 _ rfl
  have g1 : DataW.trod enc Tryd.prog W 0 (fun _ => true) true k 3 (List.take (Tryd.prog.cellsOf 3) (List.drop 1 cs)) = xs[1]? := hff 1 _ rfl
  have g2 : DataW.trod enc Tryd.prog W 0 (fun _ => true) true k 3 (List.take (Tryd.prog.cellsOf 3) (List.drop 2 cs)) = xs[2]? := hff 2 _ rfl
  have g3 : DataW.trod enc Tryd.prog W 0 (fun _ => true) true k 4 (List.take (Tryd.prog.cellsOf 4) (List.drop 3 cs)) = xs[3]? := hff 3 _ rfl
  have g4 : DataW.trod enc Tryd.prog W 0 (fun _ => true) true k 28 (List.take (Tryd.prog.cellsOf 28) (List.drop 4 cs)) = xs[4]? := hff 4 _ rfl
  have g5 : DataW.trod enc Tryd.prog W 0 (fun _ => true) true k 9 (List.take (Tryd.prog.cellsOf 9) (List.drop 12 cs)) = xs[5]? := hff 5 _ rfl
  have g6 : DataW.trod enc Tryd.prog W 0 (fun _ => true) true k 30 (List.take (Tryd.prog.cellsOf 30) (List.drop 13 cs)) = xs[6]? := hff 6 _ rfl
  have g7 : DataW.trod enc Tryd.prog W 0 (fun _ => true) true k 64 (List.take (Tryd.prog.cellsOf 64) (List.drop 15 cs)) = xs[7]? := hff 7 _ rfl
  rw [i1] at g0 g1 g2
  rw [b1] at g3
  rw [k8] at g4
  rw [s1] at g5
  rw [q2] at g6
  rw [x14] at g7
  rw [d29] at hlen
  clear hff h
  have hxl2 : xs.length = 8 := hxl
  match cs, hlen, xs, hxl2 with
  | [v0, v1, v2, v3, v4, v5, v6, v7, v8, v9, v10, v11, v12, v13, v14, v15, v16, v17, v18, v19, v20, v21, v22, v23, v24, v25, v26, v27, v28], _, [y0, y1, y2, y3, y4, y5, y6, y7], _ =>
    simp at g0 g1 g2 g3 g4 g5 g6 g7
    obtain ⟨z0, e0, r0⟩ := DataW.trod_int Tryd.underlying3 g0
    obtain ⟨z1, e1, r1⟩ := DataW.trod_int Tryd.underlying3 g1
    obtain ⟨z2, e2, r2⟩ := DataW.trod_int Tryd.underlying3 g2
    obtain ⟨z3, e3, _⟩ := DataW.trod_bool Tryd.underlying4 g3
    obtain ⟨z4, r4, e4⟩ := key_cells g4
    obtain ⟨z5, e5, _, l5⟩ := DataW.trod_string Tryd.underlying9 g5
    obtain ⟨z6, z7, r6, r7, e6⟩ := req_cells g6
    obtain ⟨z8, r8, e8⟩ := rec_cells g7
    simp at e0 e1 e2 e3 e5
    simp only [List.cons.injEq, and_true] at e4 e6 e8
    obtain ⟨rfl, rfl, rfl, rfl, rfl, rfl, rfl, rfl⟩ := e4
    obtain ⟨rfl, rfl⟩ := e6
    obtain ⟨rfl, rfl, rfl, rfl, rfl, rfl, rfl, rfl, rfl, rfl, rfl, rfl, rfl, rfl⟩ := e8
    subst e0 e1 e2 e3 e5
    exact ⟨⟨z0, z1, z2, z3, z4, z5, z6, z7, z8⟩, ⟨r4, r0.2, r1.2, r2.2, r6, r7, l5, r8⟩, rfl⟩
end

theorem open_dv {H : Type} {enc : TypeId × Value → H} {W : World} {v : Value} {d : DataW H} {p : List MemPlace}
    (h : DataW.Trod enc Tryd.prog W 0 (fun _ => true) true 73 v d p) : ∃ z : Dv, v = .agg #[.int .i64 z.op, .int .i64 z.ep, .int .i64 z.i, .bool z.nr, .int .u8 (bt z.k 0), .int .u8 (bt z.k 1), .int .u8 (bt z.k 2), .int .u8 (bt z.k 3), .int .u8 (bt z.k 4), .int .u8 (bt z.k 5), .int .u8 (bt z.k 6), .int .u8 (bt z.k 7), .string z.s, .int .i64 z.c, .int .i64 z.q, .int .i64 z.x.ix, .int .i64 z.x.ep, .int .u8 (bt z.x.k 0), .int .u8 (bt z.x.k 1), .int .u8 (bt z.x.k 2), .int .u8 (bt z.x.k 3), .int .u8 (bt z.x.k 4), .int .u8 (bt z.x.k 5), .int .u8 (bt z.x.k 6), .int .u8 (bt z.x.k 7), .int .i64 z.x.v, .string z.x.s, .int .i64 z.x.c, .int .i64 z.x.q] ∧ z.fit := by
  obtain ⟨fuel, hf⟩ := h
  obtain ⟨z, hz, e⟩ := dv_cells hf
  refine ⟨z, ?_, hz⟩
  cases v with
  | agg cs =>
    obtain ⟨cs⟩ := cs
    simp only [Value.cells] at e
    rw [e]
  | _ => simp [Value.cells] at e

end Go.Proofs.YtnbgdkdnlfomeaaDoor.M

namespace Go.Proofs.YtnbgdkdnlfomeaaDoor.M
open Go.ChangeShapes Go.WideShapes Go.ChangeAt Go.RowKit
set_option maxRecDepth 20000

theorem open_slG {T : Type} (S : Shp T) (ok : T → Prop) {H : Type} {enc : TypeId × Value → H} {P : Program} {t e : TypeId} {W : World} {a : Option Addr} {len cap : Nat} {x : DataW H × List MemPlace} {fuel : Nat} (ht : P.underlying t = some (.slice e)) (hce : P.cellsOf e = S.E)
    (hcell : ∀ (f : Nat) (cs : List Value) (y : DataW H × List MemPlace), DataW.trod enc P W 0 (fun _ => true) true f e cs = some y → ∃ r : T, ok r ∧ cs = S.cs r)
    (hf : DataW.trod enc P W 0 (fun _ => true) true fuel t [.slice a len cap] = some x) : (∃ fs, RdG S W a len cap fs ∧ ∀ f ∈ fs, ok f) ∧ len ≤ 9223372036854775807 := by
  rcases Deep.open_slice ht hf with ⟨hcs, _⟩ | ⟨ad, l, c, m, n, D, Pl, hcs, _, hl, hm, hmm, hxe, hx⟩
  · injection hcs with hcs
    injection hcs with e1 e2 e3
    subst e1 e2 e3
    exact ⟨⟨[], RdG.nilR _ _ _ fun _ => rfl, fun f hf => by cases hf⟩, by decide⟩
  · injection hcs with hcs
    injection hcs with e1 e2 e3
    subst e1 e2 e3
    refine ⟨?_, Nat.le_trans hl (Nat.le_trans hm (by decide))⟩
    simp only [if_true] at hmm
    subst hmm
    have each : ∀ i, i < m → ∃ f : T, (∀ r, r < S.E → W.cell? (ad.add (i * S.E + r)) = some ((S.cs f).getD r undef)) ∧ ok f := by
      intro i hi
      obtain ⟨cs', h1, h2⟩ := hx i hi
      rw [hce] at h1
      obtain ⟨_, hlen, hcell2⟩ := World.cells?_some h1
      obtain ⟨r, hr, rfl⟩ := hcell _ _ _ h2
      refine ⟨r, fun j hj => ?_, hr⟩
      have q := hcell2 j hj
      rw [Deep.add_add] at q
      rw [q, List.getD_eq_getElem?_getD, List.getElem?_eq_getElem (by rw [S.len]; exact hj)]
      rfl
    obtain ⟨f, hfv⟩ := @Deep.choose_lt T ⟨S.z⟩ _ _ each
    refine ⟨(List.range len).map f, ⟨by simp, hl, (fun h => by cases h), fun hn => ?_⟩, fun g hg => ?_⟩
    · obtain ⟨b, o, spot⟩ := ad
      have h0 := (hfv 0 (by omega)).1 0 S.pos
      have hspot : spot = none := by simpa [Addr.add] using World.cell?_spot h0
      subst hspot
      refine ⟨b, o, rfl, fun j u hj => ?_⟩
      have hjl : j < len * S.E := by
        rcases Nat.lt_or_ge j (len * S.E) with h | h
        · exact h
        · rw [List.getElem?_eq_none (by rw [S.fl_len]; simpa using h)] at hj; cases hj
      have hi : j / S.E < len := Nat.div_lt_of_lt_mul (by rw [Nat.mul_comm]; exact hjl)
      have hr : j % S.E < S.E := Nat.mod_lt _ S.pos
      have e0 : j / S.E * S.E + j % S.E = j := by rw [Nat.mul_comm]; exact Nat.div_add_mod j S.E
      have h1 := (hfv (j / S.E) (by omega)).1 (j % S.E) hr
      rw [e0, Addr.add_lit] at h1
      have h2 := S.fl_get ((List.range len).map f) (j / S.E) (j % S.E) (by simpa using hi) hr
      rw [e0] at h2
      rw [h2] at hj
      have e2 : ((List.range len).map f).getD (j / S.E) S.z = f (j / S.E) := by rw [List.getD_eq_getElem?_getD, List.getElem?_map, List.getElem?_range hi]; rfl
      rw [e2] at hj
      rw [h1]
      exact hj
    · obtain ⟨i, hi, rfl⟩ := List.mem_map.1 hg
      exact (hfv i (by have := List.mem_range.1 hi; omega)).2

theorem sl_cell {H : Type} {enc : TypeId × Value → H} {P : Program} {t e : TypeId} {W : World} {fuel : Nat} {v : Value} {x : DataW H × List MemPlace} (ht : P.underlying t = some (.slice e)) (h : DataW.trod enc P W 0 (fun _ => true) true fuel t [v] = some x) : ∃ a l c, v = .slice a l c := by
  rcases Deep.open_slice ht h with ⟨hcs, _⟩ | ⟨a, l, c, m, n, D, Pl, hcs, _⟩
  · injection hcs with hcs
    exact ⟨_, _, _, hcs⟩
  · injection hcs with hcs
    exact ⟨_, _, _, hcs⟩

section
variable {H : Type} {enc : TypeId × Value → H} {W : World} {fuel : Nat} {cs : List Value} {x : DataW H × List MemPlace}

def Ce.fit (r : Ce) : Prop := r.k < 18446744073709551616 ∧ r.s.size ≤ 9223372036854775807

theorem cel_cells (h : DataW.trod enc Tryd.prog W 0 (fun _ => true) true fuel 53 cs = some x) : ∃ r : Ce, r.fit ∧ cs = [.int .u8 (bt r.k 0), .int .u8 (bt r.k 1), .int .u8 (bt r.k 2), .int .u8 (bt r.k 3), .int .u8 (bt r.k 4), .int .u8 (bt r.k 5), .int .u8 (bt r.k 6), .int .u8 (bt r.k 7), .int .i64 r.v, .string r.s] := by
  obtain ⟨xs, k, _, _, hlen, hxl, hff⟩ := DataW.trod_struct Tryd.underlying53 h
  have i1 : Tryd.prog.cellsOf 3 = 1 := by kernel_rfl
  have s1 : Tryd.prog.cellsOf 9 = 1 := by kernel_rfl
  have k8 : Tryd.prog.cellsOf 28 = 8 := by kernel_rfl
  have x10 : Tryd.prog.cellsOf 53 = 10 := by kernel_rfl
  have g0 : DataW.trod enc Tryd.prog W 0 (fun _ => true) true k 28 (List.take (Tryd.prog.cellsOf 28) (List.drop 0 cs)) = xs[0]? := hff 0 _ rfl
  have g1 : DataW.trod enc Tryd.prog W 0 (fun _ => true) true k 3 (List.take (Tryd.prog.cellsOf 3) (List.drop 8 cs)) = xs[1]? := hff 1 _ rfl
  have g2 : DataW.trod enc Tryd.prog W 0 (fun _ => true) true k 9 (List.take (Tryd.prog.cellsOf 9) (List.drop 9 cs)) = xs[2]? := hff 2 _ rfl
  rw [k8] at g0
  rw [i1] at g1
  rw [s1] at g2
  rw [x10] at hlen
  clear hff h
  have hxl2 : xs.length = 3 := hxl
  match cs, hlen, xs, hxl2 with
  | [v0, v1, v2, v3, v4, v5, v6, v7, v8, v9], _, [y0, y1, y2], _ =>
    simp at g0 g1 g2
    obtain ⟨z2, r2, e2⟩ := key_cells g0
    obtain ⟨z3, e3, r3⟩ := DataW.trod_int Tryd.underlying3 g1
    obtain ⟨z4, e4, _, l4⟩ := DataW.trod_string Tryd.underlying9 g2
    simp at e3 e4
    simp only [List.cons.injEq, and_true] at e2
    obtain ⟨rfl, rfl, rfl, rfl, rfl, rfl, rfl, rfl⟩ := e2
    subst e3 e4
    exact ⟨⟨z2, z3, z4⟩, ⟨r2, l4⟩, rfl⟩

theorem don_cells (h : DataW.trod enc Tryd.prog W 0 (fun _ => true) true fuel 82 cs = some x) : ∃ r : Dn, True ∧ cs = [.int .i64 r.c, .int .i64 r.q, .int .i64 r.v] := by
  obtain ⟨xs, k, _, _, hlen, hxl, hff⟩ := DataW.trod_struct Tryd.underlying82 h
  have i1 : Tryd.prog.cellsOf 3 = 1 := by kernel_rfl
  have x3 : Tryd.prog.cellsOf 82 = 3 := by kernel_rfl
  have g0 : DataW.trod enc Tryd.prog W 0 (fun _ => true) true k 3 (List.take (Tryd.prog.cellsOf 3) (List.drop 0 cs)) = xs[0]? := hff 0 _ rfl
  have g1 : DataW.trod enc Tryd.prog W 0 (fun _ => true) true k 3 (List.take (Tryd.prog.cellsOf 3) (List.drop 1 cs)) = xs[1]? := hff 1 _ rfl
  have g2 : DataW.trod enc Tryd.prog W 0 (fun _ => true) true k 3 (List.take (Tryd.prog.cellsOf 3) (List.drop 2 cs)) = xs[2]? := hff 2 _ rfl
  rw [i1] at g0 g1 g2
  rw [x3] at hlen
  clear hff h
  have hxl2 : xs.length = 3 := hxl
  match cs, hlen, xs, hxl2 with
  | [v0, v1, v2], _, [y0, y1, y2], _ =>
    simp at g0 g1 g2
    obtain ⟨z0, e0, r0⟩ := DataW.trod_int Tryd.underlying3 g0
    obtain ⟨z1, e1, r1⟩ := DataW.trod_int Tryd.underlying3 g1
    obtain ⟨z2, e2, r2⟩ := DataW.trod_int Tryd.underlying3 g2
    simp at e0 e1 e2
    subst e0 e1 e2
    exact ⟨⟨z0, z1, z2⟩, trivial, rfl⟩
end

/-- Calls that came in. -/
theorem open_dvs {H : Type} {enc : TypeId × Value → H} {W : World} {a : Option Addr} {len cap : Nat} {d : DataW H} {p : List MemPlace}
    (h : DataW.Trod enc Tryd.prog W 0 (fun _ => true) true 26 (.slice a len cap) d p) : ∃ fs, RdG dooS W a len cap fs ∧ (∀ f ∈ fs, okD f) ∧ len ≤ 9223372036854775807 := by
  obtain ⟨fuel, hf⟩ := h
  have hf2 : DataW.trod enc Tryd.prog W 0 (fun _ => true) true fuel 26 [.slice a len cap] = some (d, p) := hf
  obtain ⟨⟨fs, h1, h2⟩, h3⟩ := open_slG dooS okD Tryd.underlying26 (by kernel_rfl) (fun f cs y hy => by
    obtain ⟨r, hr, e⟩ := dv_cells hy
    exact ⟨r, ⟨hr.1, hr.2.2.2.2.2.2.1, hr.2.2.2.2.2.2.2.1, hr.2.2.2.2.2.2.2.2.2.2.2.2.2⟩, e⟩) hf2
  exact ⟨fs, h1, h2, h3⟩

theorem fit_okD {d : Dv} (hr : d.fit) : okD d := ⟨hr.1, hr.2.2.2.2.2.2.1, hr.2.2.2.2.2.2.2.1, hr.2.2.2.2.2.2.2.2.2.2.2.2.2⟩

/-- A table that came in. -/
theorem open_tab {H : Type} {enc : TypeId × Value → H} {W : World} {v : Value} {d : DataW H} {p : List MemPlace}
    (h : DataW.Trod enc Tryd.prog W 0 (fun _ => true) true 25 v d p) : ∃ ix ep cp cn cc C dp dn dc D, v = .agg #[.int .i64 ix, .int .i64 ep, .slice cp cn cc, .slice dp dn dc] ∧ RdG celS W cp cn cc C ∧ RdG donS W dp dn dc D ∧ (∀ c ∈ C, Ce.fit c) ∧ cn ≤ 9223372036854775807 ∧ dn ≤ 9223372036854775807 := by
  obtain ⟨fuel, hf⟩ := h
  obtain ⟨xs, k, _, hxd, hlen, hxl, hff⟩ := DataW.trod_struct Tryd.underlying25 hf
  have h4 : Tryd.prog.cellsOf 25 = 4 := by kernel_rfl
  have i1 : Tryd.prog.cellsOf 3 = 1 := by kernel_rfl
  have c1 : Tryd.prog.cellsOf 22 = 1 := by kernel_rfl
  have d1 : Tryd.prog.cellsOf 23 = 1 := by kernel_rfl
  rw [h4] at hlen
  have g0 : DataW.trod enc Tryd.prog W 0 (fun _ => true) true k 3 (List.take (Tryd.prog.cellsOf 3) (List.drop 0 v.cells.toList)) = xs[0]? := hff 0 _ rfl
  have g1 : DataW.trod enc Tryd.prog W 0 (fun _ => true) true k 3 (List.take (Tryd.prog.cellsOf 3) (List.drop 1 v.cells.toList)) = xs[1]? := hff 1 _ rfl
  have g2 : DataW.trod enc Tryd.prog W 0 (fun _ => true) true k 22 (List.take (Tryd.prog.cellsOf 22) (List.drop 2 v.cells.toList)) = xs[2]? := hff 2 _ rfl
  have g3 : DataW.trod enc Tryd.prog W 0 (fun _ => true) true k 23 (List.take (Tryd.prog.cellsOf 23) (List.drop 3 v.cells.toList)) = xs[3]? := hff 3 _ rfl
  rw [i1] at g0 g1
  rw [c1] at g2
  rw [d1] at g3
  clear hff hf
  cases v with
  | agg cs =>
    obtain ⟨cs⟩ := cs
    have hxl2 : xs.length = 4 := hxl
    match cs, hlen, xs, hxl2, hxd with
    | [v0, v1, v2, v3], _, [y0, y1, y2, y3], _, hxd =>
      simp [Value.cells] at g0 g1 g2 g3
      obtain ⟨z0, e0, _, w0⟩ := DataW.trod_int Tryd.underlying3 g0
      obtain ⟨z1, e1, _, w1⟩ := DataW.trod_int Tryd.underlying3 g1
      obtain ⟨a, l, c, e2⟩ := sl_cell Tryd.underlying22 g2
      obtain ⟨a', l', c', e3⟩ := sl_cell Tryd.underlying23 g3
      simp at e0 e1
      subst e0 e1 e2 e3
      obtain ⟨⟨C, hC, hok⟩, hl⟩ := open_slG celS Ce.fit Tryd.underlying22 (by kernel_rfl) (fun f cs y hy => cel_cells hy) g2
      obtain ⟨⟨D, hD, _⟩, hl'⟩ := open_slG donS (fun _ => True) Tryd.underlying23 (by kernel_rfl) (fun f cs y hy => don_cells hy) g3
      exact ⟨z0, z1, a, l, c, C, a', l', c', D, rfl, hC, hD, hok, hl, hl'⟩
  | _ => simp [Value.cells] at hlen

end Go.Proofs.YtnbgdkdnlfomeaaDoor.M

namespace Go.Proofs.YtnbgdkdnlfomeaaDoor.M
open Go.ChangeShapes Go.WideShapes Go.ChangeAt Go.RowKit Go.ChangeMaps Go.MapKept Go.Maps Go.Shelf Go.Proofs
set_option linter.unusedSimpArgs false

/-- So many keys at most. -/
def Sh.kn (s : Sh) : Prop := (s.low.adds s.tail).cs.length ≤ 12

theorem putC_len : ∀ (l : List Ce) (c : Ce), l.length ≤ (putC l c).length ∧ (putC l c).length ≤ l.length + 1 ∧ ((lookC l c.k).isSome = true → (putC l c).length = l.length)
  | [], c => ⟨by simp [putC], by simp [putC], by simp [lookC]⟩
  | x :: l, c => by
    obtain ⟨h1, h2, h3⟩ := putC_len l c
    unfold putC lookC
    split
    · simp
    · refine ⟨by simpa using h1, by simpa using h2, fun h => by simpa using h3 h⟩

theorem adds_len : ∀ (l : List Rc) (m : Sm), m.cs.length ≤ (m.adds l).cs.length
  | [], _ => Nat.le_refl _
  | x :: l, m => Nat.le_trans (putC_len m.cs ⟨x.k, x.v, x.s⟩).1 (adds_len l (m.add x))

theorem adds_app (m : Sm) (a b : List Rc) : m.adds (a ++ b) = (m.adds a).adds b := by unfold Sm.adds; rw [List.foldl_append]

theorem Sh.kn.take {s : Sh} (h : s.kn) (k : Nat) : (s.low.adds (s.tail.take k)).cs.length ≤ 12 := by
  unfold Sh.kn at h
  rw [← List.take_append_drop k s.tail, adds_app] at h
  exact Nat.le_trans (adds_len _ _) h

theorem Sh.kn.low {s : Sh} (h : s.kn) : s.low.cs.length ≤ 12 := Nat.le_trans (adds_len s.tail s.low) h

theorem Sh.kn.add {s : Sh} (h : s.kn) (x : Rc) : (s.addS x).kn := by
  unfold Sh.addS
  split
  · rename_i he
    have hs : (s.low.adds s.tail).stands x = 0 := by
      unfold Sh.addE at he
      split at he
      · rename_i hne; exact absurd he hne
      · rename_i hne; exact Classical.byContradiction hne
    have h9 := (stands_ok hs).2.2.2.2.2.2.2.2
    show ((s.low.adds (s.tail ++ [x])).cs.length ≤ 12)
    rw [adds_app]
    show (putC (s.low.adds s.tail).cs ⟨x.k, x.v, x.s⟩).length ≤ 12
    obtain ⟨h1, h2, h3⟩ := putC_len (s.low.adds s.tail).cs ⟨x.k, x.v, x.s⟩
    unfold Sh.kn at h
    cases hl : (lookC (s.low.adds s.tail).cs x.k).isSome with
    | true => rw [h3 hl]; exact h
    | false =>
      have : ¬ 12 ≤ (s.low.adds s.tail).cs.length := fun e => h9 ⟨hl, e⟩
      omega
  · exact h

theorem Sh.kn.cut {s : Sh} (h : s.kn) (i : Int) : (s.cutS i).kn := by
  unfold Sh.cutS
  split
  · exact h.take _
  · exact h

theorem Sh.kn.set {s : Sh} (h : s.kn) (i : Int) : (s.setS i).kn := by
  unfold Sh.setS
  split
  · exact h
  · exact h

theorem Sh.kn.fold {s : Sh} (h : s.kn) (i : Int) : (s.foldS i).kn := by
  unfold Sh.foldS
  split
  · show (((s.low.adds (s.tail.take (i - s.low.ix).toNat)).adds (s.tail.drop (i - s.low.ix).toNat)).cs.length ≤ 12)
    rw [← adds_app, List.take_append_drop]
    exact h
  · exact h

theorem Sh.kn.does {s : Sh} (h : s.kn) (d : Dv) : ((s.doR d).2.2).kn := by
  unfold Sh.doR
  repeat (split; first | exact h.add _ | exact h.cut _ | exact h.set _ | exact h.fold _ | skip)
  all_goals first | exact h.add _ | exact h

theorem Sh.kn.runs {s : Sh} (h : s.kn) (l : List Dv) : (s.runs l).kn := by
  unfold Sh.runs
  induction l generalizing s with
  | nil => exact h
  | cons d l ih => exact ih (h.does d)

theorem cels_len : ∀ (C : List Ce) (m : Sm), (C.foldl Sm.cel m).cs.length ≤ m.cs.length + C.length
  | [], m => by simp
  | c :: C, m => by
    have h1 := cels_len C (m.cel c)
    have h2 : (m.cel c).cs.length ≤ m.cs.length + 1 := (putC_len m.cs c).2.1
    simp only [List.foldl_cons, List.length_cons]
    omega

theorem frS_kn {ix ep : Int} {C : List Ce} {D : List Dn} (h : chkE ix ep C D = 0) : (frS ix ep C D).kn := by
  have h1 := (chk_ok h).2.1
  have h2 : C.length ≤ 12 := by
    unfold areC at h1
    simp only [Bool.and_eq_true, decide_eq_true_eq] at h1
    exact h1.1
  show ((smOf ix ep C D).cs.length ≤ 12)
  unfold smOf
  rw [(dons_cs D _).1]
  have h3 := cels_len C ⟨ix, ep, [], fun _ => .z0⟩
  simp only [List.length_nil] at h3
  omega

/-- What is refused changes nothing. -/
theorem doR_same {s : Sh} {d : Dv} (h : (s.doR d).2.1 ≠ 0) : (s.doR d).2.2 = s := by
  unfold Sh.doR at *
  by_cases h3 : (bits .and .i64 d.op 7 == 3) = true
  · rw [if_pos h3] at *; exact if_neg h
  · rw [if_neg h3] at *
    by_cases h4 : (bits .and .i64 d.op 7 == 4) = true
    · rw [if_pos h4] at *; exact if_neg h
    · rw [if_neg h4] at *
      by_cases h5 : (bits .and .i64 d.op 7 == 5) = true
      · rw [if_pos h5] at *; exact if_neg h
      · rw [if_neg h5] at *
        by_cases h6 : (bits .and .i64 d.op 7 == 6) = true
        · rw [if_pos h6] at *; exact if_neg h
        · rw [if_neg h6] at *
          by_cases h7 : (bits .and .i64 d.op 7 == 7) = true
          · rw [if_pos h7] at *; exact if_neg h
          · rw [if_neg h7] at *
            by_cases hn : s.nextE (s.nx d.ep d.k d.s d.c d.q) = 0
            · rw [if_pos hn] at *; exact if_neg h
            · rw [if_neg hn]

/-- A table's lists, from block B on. -/
structure TabQ (W : World) (B : Nat) (m : Sm) (pc : Option Addr) (cc : Nat) (pd : Option Addr) (cd : Nat) : Prop where
  c : RdG celS W pc m.cs.length cc (sortC m.cs)
  d : RdG donS W pd (donL m 4).length cd (donL m 4)
  bc : 0 < m.cs.length → ∀ a, pc = some a → B ≤ a.block
  bd : 0 < (donL m 4).length → ∀ a, pd = some a → B ≤ a.block

theorem TabQ.lower {W : World} {B B' : Nat} {m : Sm} {pc : Option Addr} {cc : Nat} {pd : Option Addr} {cd : Nat} (h : TabQ W B m pc cc pd cd) (hB : B' ≤ B) : TabQ W B' m pc cc pd cd :=
  ⟨h.c, h.d, fun h0 a ha => Nat.le_trans hB (h.bc h0 a ha), fun h0 a ha => Nat.le_trans hB (h.bd h0 a ha)⟩

theorem TabQ.below {W W' : World} {B : Nat} {m : Sm} {pc : Option Addr} {cc : Nat} {pd : Option Addr} {cd : Nat} (h : TabQ W B m pc cc pd cd) (hb : Below W.heap.size W W') : TabQ W' B m pc cc pd cd :=
  ⟨h.c.below hb, h.d.below hb, h.bc, h.bd⟩

theorem TabQ.row {W : World} {B g : Nat} {m : Sm} {pc : Option Addr} {cc : Nat} {pd : Option Addr} {cd : Nat} (h : TabQ W B m pc cc pd cd) (hg : g < B) (cs : Array Value) : TabQ (W.setRow g cs) B m pc cc pd cd :=
  ⟨h.c.ch (Ch.setRow W g cs) fun h0 a ha e => by have := h.bc h0 a ha; omega, h.d.ch (Ch.setRow W g cs) fun h0 a ha e => by have := h.bd h0 a ha; omega, h.bc, h.bd⟩

def TW (w : World) (m : Sm) (pc : Option Addr) (cc : Nat) (pd : Option Addr) (cd : Nat) (W : World) : Prop := Bl w W ∧ TabQ W w.heap.size m pc cc pd cd

theorem TW.stays (w : World) (m : Sm) (pc : Option Addr) (cc : Nat) (pd : Option Addr) (cd : Nat) : Stays (TW w m pc cc pd cd) := fun _ _ h hb => ⟨Bl.stays w _ _ h.1 hb, h.2.below hb⟩

def TX (w : World) (g : Nat) (m : Sm) (pc : Option Addr) (cc : Nat) (pd : Option Addr) (cd : Nat) (W : World) : Prop := Below w.heap.size w W ∧ At 25 W g #[.int .i64 m.ix, .int .i64 m.ep, .slice pc m.cs.length cc, .slice pd (donL m 4).length cd] ∧ ∃ B, TabQ W B m pc cc pd cd

theorem TX.stays (w : World) (g : Nat) (m : Sm) (pc : Option Addr) (cc : Nat) (pd : Option Addr) (cd : Nat) : Stays (TX w g m pc cc pd cd) := fun _ _ h hb => ⟨h.1.trans (hb.mono h.1.size), At.below h.2.1 hb, h.2.2.imp fun _ h => h.below hb⟩

/-- A table that tells sums. -/
def TabR (W : World) (v : Value) (m : Sm) : Prop := ∃ pc cc pd cd, v = .agg #[.int .i64 m.ix, .int .i64 m.ep, .slice pc m.cs.length cc, .slice pd (donL m 4).length cd] ∧ RdG celS W pc m.cs.length cc (sortC m.cs) ∧ RdG donS W pd (donL m 4).length cd (donL m 4)

theorem TabR.below {W W' : World} {v : Value} {m : Sm} (h : TabR W v m) (hb : Below W.heap.size W W') : TabR W' v m := by
  obtain ⟨pc, cc, pd, cd, h1, h2, h3⟩ := h
  exact ⟨pc, cc, pd, cd, h1, h2.below hb, h3.below hb⟩

set_option maxRecDepth 20000 in
set_option maxHeartbeats 4000000 in
theorem tabM_any {w : World} {g b : Nat} {p : Option Addr} {n c : Nat} {s : Sh} (h : ShB w g b p n c s) (hkn : s.low.cs.length ≤ 12) :
    Calls Tryd.prog 14 #[.pointer (some ⟨g, 0, none⟩)] w fun e w' => ∃ v, e = .returned v ∧ TabR w' v s.low ∧ Below w.heap.size w w' := by
  have hb0 := below_alloc' w (.cells #[.int .i64 0, .int .i64 0, .slice none 0 0, .slice none 0 0] 25)
  have hBx := At.new 25 w #[.int .i64 0, .int .i64 0, .slice none 0 0, .slice none 0 0]
  have hSh := h.below hb0
  have hm := hSh.made
  have hC := table_any s.low b _ hSh.mp hkn
  have hlt := At.lt hBx
  clear h hkn
  go_enter Tryd.func14, Tryd.ntmps14
  go_wp2_with fail
  generalize (w.alloc (.cells #[.int .i64 0, .int .i64 0, .slice none 0 0, .slice none 0 0] 25)) = V0 at *
  refine hm.mono ?_
  rintro e w1 ⟨rfl, rfl⟩
  clear hm
  obtain ⟨⟨zz0, zz1, zz2, zz3, zz4, zz5, zz6, zz7, zz8, zz9, zz10, zz11, zz12, zz13, zz14⟩, zz15, zz16⟩ := hSh.cells
  go_wp2_with fail
  clear zz0 zz1 zz2 zz3 zz4 zz5 zz6 zz7 zz8 zz9 zz10 zz11 zz12 zz13 zz14 zz15 zz16
  refine hC.mono ?_
  rintro e w2 ⟨pc, cc, pd, cd, rfl, h1, h2, h3, h4, hb2⟩
  clear hC
  have hB2 := hBx.below hb2
  have hQ : TabQ w2 w1.heap.size s.low pc cc pd cd := ⟨h1, h2, h3, h4⟩
  clear h1 h2 h3 h4 hBx
  go_wp2_with (refine wpList_store_row rfl 25 _ _ rfl w.heap.size #[.int .i64 s.low.ix, .int .i64 s.low.ep, .slice pc s.low.cs.length cc, .slice pd (donL s.low 4).length cd] rfl rfl _ _ hB2 infoTb rfl (by simp [Value.oneCell']) ?_)
  have hQ3 := hQ.row hlt #[.int .i64 s.low.ix, .int .i64 s.low.ep, .slice pc s.low.cs.length cc, .slice pd (donL s.low 4).length cd]
  exact bodyPost_ret (v := .agg #[.int .i64 s.low.ix, .int .i64 s.low.ep, .slice pc s.low.cs.length cc, .slice pd (donL s.low 4).length cd]) (results_cell_row rfl _ _ w.heap.size _ _ _ _ rfl (hB2.row _) Tryd.underlying25 rfl infoTb) rfl ⟨_, rfl, ⟨pc, cc, pd, cd, rfl, hQ3.c, hQ3.d⟩, (hb0.trans (hb2.mono hb0.size)).trans (below_setRow w2 w.heap.size _ (Nat.le_refl _))⟩

set_option maxRecDepth 20000 in
set_option maxHeartbeats 4000000 in
theorem whole_any {w : World} {g b : Nat} {p : Option Addr} {n c : Nat} {s : Sh} (h : ShB w g b p n c s) (hk : s.kn) :
    Calls Tryd.prog 35 #[.pointer (some ⟨g, 0, none⟩)] w fun e w' => ∃ v, e = .returned v ∧ TabR w' v (s.low.adds (s.tail.take (s.com - s.low.ix).toNat)) ∧ Below w.heap.size w w' := by
  have hkn : (s.low.adds (s.tail.take (s.com - s.low.ix).toNat)).cs.length ≤ 12 := hk.take _
  have hb0 := below_alloc' w (.cells #[.int .i64 0, .int .i64 0, .slice none 0 0, .slice none 0 0] 25)
  have hBx := At.new 25 w #[.int .i64 0, .int .i64 0, .slice none 0 0, .slice none 0 0]
  have hSh := h.below hb0
  have hm := hSh.made
  have hln := h.len
  have hfw := h.inv.few
  have hi1 := h.inv.lo
  have hi2 := h.inv.hi
  have hcn : (s.com - s.low.ix).toNat ≤ n := by omega
  have hg4w : w.heap.size ≤ w.heap.size := Nat.le_refl _
  clear h hk
  go_enter Tryd.func35, Tryd.ntmps35
  go_wp2_with fail
  generalize (w.alloc (.cells #[.int .i64 0, .int .i64 0, .slice none 0 0, .slice none 0 0] 25)) = V0 at *
  refine hm.mono ?_
  rintro e w1 ⟨rfl, rfl⟩
  clear hm
  go_wp2_with fail
  have hS0 : Bl w1 w1.drew := (Below.refl _ _).drew
  refine wp_region_det [0, 1, 2, 3, 4, 5, 6, 7, 8, 9] (Bl w1) (Bl w1) (by kernel_rfl) hS0 ?_
  refine wpDet_take ?vW0 (Bl.stays w1) (fun _ h => h) (i := 0) rfl (by kernel_rfl) (by kernel_rfl) (by kernel_rfl) (by kernel_rfl) (fun _ _ _ h => h) (Gives.value (by rfl) ?yW0) ?rW0
  case yW0 => (intro w' hSw; (try dsimp only at hSw); go_simp; try with_reducible rfl)
  (try simp only [Act.put, List.getElem_toArray, List.getElem_cons_zero, List.getElem_cons_succ, List.setIfInBounds_toArray, List.set_cons_zero, List.set_cons_succ])
  refine wpDet_take ?vW1 (Bl.stays w1) (fun _ h => h) (i := 1) rfl (by kernel_rfl) (by kernel_rfl) (by kernel_rfl) (by kernel_rfl) (fun _ _ _ h => h) (Gives.value (by rfl) ?yW1) ?rW1
  case yW1 => (intro w' hSw; (try dsimp only at hSw); go_simp; try with_reducible rfl)
  (try simp only [Act.put, List.getElem_toArray, List.getElem_cons_zero, List.getElem_cons_succ, List.setIfInBounds_toArray, List.set_cons_zero, List.set_cons_succ])
  refine wpDet_take ?vW2 (Bl.stays w1) (fun _ h => h) (i := 2) rfl (by kernel_rfl) (by kernel_rfl) (by kernel_rfl) (by kernel_rfl) (fun _ _ _ h => h) (Gives.value (by rfl) ?yW2) ?rW2
  case yW2 => (intro w' hSw; (try dsimp only at hSw); go_simp; try with_reducible rfl)
  (try simp only [Act.put, List.getElem_toArray, List.getElem_cons_zero, List.getElem_cons_succ, List.setIfInBounds_toArray, List.set_cons_zero, List.set_cons_succ])
  refine wpDet_take ?vW3 (Bl.stays w1) (fun _ h => h) (i := 3) rfl (by kernel_rfl) (by kernel_rfl) (by kernel_rfl) (by kernel_rfl) (fun _ _ _ h => h) (Gives.value (by rfl) ?yW3) ?rW3
  case yW3 => (intro w' hSw; obtain ⟨⟨zz0, zz1, zz2, zz3, zz4, zz5, zz6, zz7, zz8, zz9, zz10, zz11, zz12, zz13, zz14⟩, zz15, zz16⟩ := (hSh.below (show Below w1.heap.size w1 w' from hSw)).cells; (try dsimp only at hSw); go_simp; try with_reducible rfl)
  (try simp only [Act.put, List.getElem_toArray, List.getElem_cons_zero, List.getElem_cons_succ, List.setIfInBounds_toArray, List.set_cons_zero, List.set_cons_succ])
  refine wpDet_take ?vW4 (Bl.stays w1) (fun _ h => h) (i := 4) rfl (by kernel_rfl) (by kernel_rfl) (by kernel_rfl) (by kernel_rfl) (fun _ _ _ h => h) (Gives.value (by rfl) ?yW4) ?rW4
  case yW4 => (intro w' hSw; (try dsimp only at hSw); go_simp; try with_reducible rfl)
  (try simp only [Act.put, List.getElem_toArray, List.getElem_cons_zero, List.getElem_cons_succ, List.setIfInBounds_toArray, List.set_cons_zero, List.set_cons_succ])
  refine wpDet_take ?vW5 (Bl.stays w1) (fun _ h => h) (i := 5) rfl (by kernel_rfl) (by kernel_rfl) (by kernel_rfl) (by kernel_rfl) (fun _ _ _ h => h) (Gives.value (by rfl) ?yW5) ?rW5
  case yW5 => (intro w' hSw; (try dsimp only at hSw); go_simp; try with_reducible rfl)
  (try simp only [Act.put, List.getElem_toArray, List.getElem_cons_zero, List.getElem_cons_succ, List.setIfInBounds_toArray, List.set_cons_zero, List.set_cons_succ])
  refine wpDet_take ?vW6 (Bl.stays w1) (fun _ h => h) (i := 6) rfl (by kernel_rfl) (by kernel_rfl) (by kernel_rfl) (by kernel_rfl) (fun _ _ _ h => h) (Gives.value (by rfl) ?yW6) ?rW6
  case yW6 => (intro w' hSw; (try dsimp only at hSw); go_simp; try with_reducible rfl)
  (try simp only [Act.put, List.getElem_toArray, List.getElem_cons_zero, List.getElem_cons_succ, List.setIfInBounds_toArray, List.set_cons_zero, List.set_cons_succ])
  refine wpDet_take ?vW7 (Bl.stays w1) (fun _ h => h) (i := 7) rfl (by kernel_rfl) (by kernel_rfl) (by kernel_rfl) (by kernel_rfl) (fun _ _ _ h => h) (Gives.value (by rfl) ?yW7) ?rW7
  case yW7 => (intro w' hSw; obtain ⟨⟨zz0, zz1, zz2, zz3, zz4, zz5, zz6, zz7, zz8, zz9, zz10, zz11, zz12, zz13, zz14⟩, zz15, zz16⟩ := (hSh.below (show Below w1.heap.size w1 w' from hSw)).cells; (try dsimp only at hSw); go_simp; try with_reducible rfl)
  (try simp only [Act.put, List.getElem_toArray, List.getElem_cons_zero, List.getElem_cons_succ, List.setIfInBounds_toArray, List.set_cons_zero, List.set_cons_succ])
  refine wpDet_take ?vW8 (Bl.stays w1) (fun _ h => h) (i := 8) rfl (by kernel_rfl) (by kernel_rfl) (by kernel_rfl) (by kernel_rfl) (fun _ _ _ h => h) (Gives.value (by rfl) ?yW8) ?rW8
  case yW8 => (intro w' hSw; obtain ⟨⟨zz0, zz1, zz2, zz3, zz4, zz5, zz6, zz7, zz8, zz9, zz10, zz11, zz12, zz13, zz14⟩, zz15, zz16⟩ := (hSh.below (show Below w1.heap.size w1 w' from hSw)).cells; (try dsimp only at hSw); go_simp; try with_reducible rfl)
  (try simp only [Act.put, List.getElem_toArray, List.getElem_cons_zero, List.getElem_cons_succ, List.setIfInBounds_toArray, List.set_cons_zero, List.set_cons_succ])
  refine wpDet_take (.slice p (s.com - s.low.ix).toNat c) (Bl.stays w1) (fun _ h => h) (i := 9) rfl (by kernel_rfl) (by kernel_rfl) (by kernel_rfl) (by kernel_rfl) (fun _ _ _ h => h) (Gives.call 52 #[.pointer (some ⟨g, 0, none⟩), .int .i64 s.com] (by rfl) (fun _ => by first | (go_simp; done) | (go_simp; rfl)) (fun W hW => (upTo_any (hSh.below hW) s.com hSh.inv.lo hSh.inv.hi).mono fun e w' ⟨h1, h2⟩ => ⟨h1, h2⟩)) ?_
  (try simp only [Act.put, List.getElem_toArray, List.getElem_cons_zero, List.getElem_cons_succ, List.setIfInBounds_toArray, List.set_cons_zero, List.set_cons_succ])
  refine wpDet_ready (rs := [10]) (by kernel_rfl) (by simp) (AllDet.cons rfl (fun V hV K hK => ?_) AllDet.nil)
  rw [if_pos (by rfl)]
  have hbV := Bl.out hV
  have hC := with_any s.low b p (s.com - s.low.ix).toNat c (s.tail.take (s.com - s.low.ix).toNat) V (hSh.mp.below hbV) ((hSh.tl.rd.front hcn).below hbV) (fun x hx => hSh.inv.ok x (List.mem_of_mem_take hx)) (by omega)
  refine wp_enterX 55 #[.agg #[.int .i64 s.low.ix, .int .i64 s.low.ep, .map (some b), .int .i64 (s.low.d 0).c, .int .i64 (s.low.d 0).q, .int .i64 (s.low.d 0).v, .int .i64 (s.low.d 1).c, .int .i64 (s.low.d 1).q, .int .i64 (s.low.d 1).v, .int .i64 (s.low.d 2).c, .int .i64 (s.low.d 2).q, .int .i64 (s.low.d 2).v, .int .i64 (s.low.d 3).c, .int .i64 (s.low.d 3).q, .int .i64 (s.low.d 3).v], .slice p (s.com - s.low.ix).toNat c] (by first | (go_simp; done) | (go_simp; rfl)) (fun x W => ∃ b', x = .agg #[.int .i64 (s.low.adds (s.tail.take (s.com - s.low.ix).toNat)).ix, .int .i64 (s.low.adds (s.tail.take (s.com - s.low.ix).toNat)).ep, .map (some b'), .int .i64 ((s.low.adds (s.tail.take (s.com - s.low.ix).toNat)).d 0).c, .int .i64 ((s.low.adds (s.tail.take (s.com - s.low.ix).toNat)).d 0).q, .int .i64 ((s.low.adds (s.tail.take (s.com - s.low.ix).toNat)).d 0).v, .int .i64 ((s.low.adds (s.tail.take (s.com - s.low.ix).toNat)).d 1).c, .int .i64 ((s.low.adds (s.tail.take (s.com - s.low.ix).toNat)).d 1).q, .int .i64 ((s.low.adds (s.tail.take (s.com - s.low.ix).toNat)).d 1).v, .int .i64 ((s.low.adds (s.tail.take (s.com - s.low.ix).toNat)).d 2).c, .int .i64 ((s.low.adds (s.tail.take (s.com - s.low.ix).toNat)).d 2).q, .int .i64 ((s.low.adds (s.tail.take (s.com - s.low.ix).toNat)).d 2).v, .int .i64 ((s.low.adds (s.tail.take (s.com - s.low.ix).toNat)).d 3).c, .int .i64 ((s.low.adds (s.tail.take (s.com - s.low.ix).toNat)).d 3).q, .int .i64 ((s.low.adds (s.tail.take (s.com - s.low.ix).toNat)).d 3).v] ∧ MC W b' (s.low.adds (s.tail.take (s.com - s.low.ix).toNat)).cs ∧ V.heap.size ≤ b' ∧ Below V.heap.size V W) (hC.mono fun r w' ⟨b', h1, h2, h3, h4⟩ => ⟨_, h1, b', rfl, h2, h3, h4⟩) ?_
  rintro x7 V7 ⟨b7, rfl, hm7, hb7, hbl7⟩
  have hz7 : MW w1 b7 (s.low.adds (s.tail.take (s.com - s.low.ix).toNat)).cs V7 := ⟨Bl.stays w1 V _ hV hbl7, hm7, Nat.le_trans hbV.size hb7⟩
  refine hK.out (MW w1 b7 (s.low.adds (s.tail.take (s.com - s.low.ix).toNat)).cs) _ _ (MW.stays _ _ _) (fun _ _ h => h.1) hz7 ?_
  clear hK K hV hC hbl7 hm7 hz7 hbV hb7
  (try simp only [Act.put, List.getElem_toArray, List.getElem_cons_zero, List.getElem_cons_succ, List.setIfInBounds_toArray, List.set_cons_zero, List.set_cons_succ])
  refine wpDet_ready (rs := [11]) (by kernel_rfl) (by simp) (AllDet.cons rfl (fun V hV K hK => ?_) AllDet.nil)
  rw [if_pos (by rfl)]
  have hbV := Bl.out hV.1
  have hC := table_any (s.low.adds (s.tail.take (s.com - s.low.ix).toNat)) b7 V hV.2.1 hkn
  refine wp_enterX 48 #[.agg #[.int .i64 (s.low.adds (s.tail.take (s.com - s.low.ix).toNat)).ix, .int .i64 (s.low.adds (s.tail.take (s.com - s.low.ix).toNat)).ep, .map (some b7), .int .i64 ((s.low.adds (s.tail.take (s.com - s.low.ix).toNat)).d 0).c, .int .i64 ((s.low.adds (s.tail.take (s.com - s.low.ix).toNat)).d 0).q, .int .i64 ((s.low.adds (s.tail.take (s.com - s.low.ix).toNat)).d 0).v, .int .i64 ((s.low.adds (s.tail.take (s.com - s.low.ix).toNat)).d 1).c, .int .i64 ((s.low.adds (s.tail.take (s.com - s.low.ix).toNat)).d 1).q, .int .i64 ((s.low.adds (s.tail.take (s.com - s.low.ix).toNat)).d 1).v, .int .i64 ((s.low.adds (s.tail.take (s.com - s.low.ix).toNat)).d 2).c, .int .i64 ((s.low.adds (s.tail.take (s.com - s.low.ix).toNat)).d 2).q, .int .i64 ((s.low.adds (s.tail.take (s.com - s.low.ix).toNat)).d 2).v, .int .i64 ((s.low.adds (s.tail.take (s.com - s.low.ix).toNat)).d 3).c, .int .i64 ((s.low.adds (s.tail.take (s.com - s.low.ix).toNat)).d 3).q, .int .i64 ((s.low.adds (s.tail.take (s.com - s.low.ix).toNat)).d 3).v]] (by first | (go_simp; done) | (go_simp; rfl)) (fun x W => ∃ pc cc pd cd, x = .agg #[.int .i64 (s.low.adds (s.tail.take (s.com - s.low.ix).toNat)).ix, .int .i64 (s.low.adds (s.tail.take (s.com - s.low.ix).toNat)).ep, .slice pc (s.low.adds (s.tail.take (s.com - s.low.ix).toNat)).cs.length cc, .slice pd (donL (s.low.adds (s.tail.take (s.com - s.low.ix).toNat)) 4).length cd] ∧ TabQ W V.heap.size (s.low.adds (s.tail.take (s.com - s.low.ix).toNat)) pc cc pd cd ∧ Below V.heap.size V W) (hC.mono fun r w' ⟨pc, cc, pd, cd, h1, h2, h3, h4, h5, h6⟩ => ⟨_, h1, pc, cc, pd, cd, rfl, ⟨h2, h3, h4, h5⟩, h6⟩) ?_
  rintro x8 V8 ⟨pc, cc, pd, cd, rfl, hq8, hbl8⟩
  have hz8 : TW w1 (s.low.adds (s.tail.take (s.com - s.low.ix).toNat)) pc cc pd cd V8 := ⟨Bl.stays w1 V _ hV.1 hbl8, hq8.lower hbV.size⟩
  refine hK.out (TW w1 (s.low.adds (s.tail.take (s.com - s.low.ix).toNat)) pc cc pd cd) _ _ (TW.stays _ _ _ _ _ _) (fun _ _ h => h.1) hz8 ?_
  clear hK K hV hC hbl8 hq8 hz8 hbV
  (try simp only [Act.put, List.getElem_toArray, List.getElem_cons_zero, List.getElem_cons_succ, List.setIfInBounds_toArray, List.set_cons_zero, List.set_cons_succ])
  refine wpDet_ready (rs := [12]) (by kernel_rfl) (by simp) (AllDet.cons rfl (fun V hV K hK => ?_) AllDet.nil)
  rw [if_pos (by rfl)]
  have hg4 := At.below hBx (Bl.out hV.1)
  refine wp_store_row 25 _ _ rfl w.heap.size #[.int .i64 (s.low.adds (s.tail.take (s.com - s.low.ix).toNat)).ix, .int .i64 (s.low.adds (s.tail.take (s.com - s.low.ix).toNat)).ep, .slice pc (s.low.adds (s.tail.take (s.com - s.low.ix).toNat)).cs.length cc, .slice pd (donL (s.low.adds (s.tail.take (s.com - s.low.ix).toNat)) 4).length cd] rfl rfl _ _ hg4 infoTb rfl (by simp [Value.oneCell']) ?_
  have hz9 : TX w w.heap.size (s.low.adds (s.tail.take (s.com - s.low.ix).toNat)) pc cc pd cd (V.setRow w.heap.size #[.int .i64 (s.low.adds (s.tail.take (s.com - s.low.ix).toNat)).ix, .int .i64 (s.low.adds (s.tail.take (s.com - s.low.ix).toNat)).ep, .slice pc (s.low.adds (s.tail.take (s.com - s.low.ix).toNat)).cs.length cc, .slice pd (donL (s.low.adds (s.tail.take (s.com - s.low.ix).toNat)) 4).length cd]) := ⟨(hb0.trans ((Bl.out hV.1).mono hb0.size)).trans (below_setRow V w.heap.size _ hg4w), hg4.row _, ⟨_, hV.2.row (by have := At.lt hBx; omega) _⟩⟩
  refine hK.out (TX w w.heap.size (s.low.adds (s.tail.take (s.com - s.low.ix).toNat)) pc cc pd cd) _ _ (TX.stays _ _ _ _ _ _ _) (no_lean (by kernel_rfl)) hz9 ?_
  clear hK K hV hg4 hz9
  (try simp only [Act.put, List.getElem_toArray, List.getElem_cons_zero, List.getElem_cons_succ, List.setIfInBounds_toArray, List.set_cons_zero, List.set_cons_succ])
  refine wpDet_done (by kernel_rfl) (fun W9 hV => ?_) _
  obtain ⟨hB9, hA9, B9, hQ9⟩ := hV
  go_wp2_with fail
  exact bodyPost_ret (v := .agg #[.int .i64 (s.low.adds (s.tail.take (s.com - s.low.ix).toNat)).ix, .int .i64 (s.low.adds (s.tail.take (s.com - s.low.ix).toNat)).ep, .slice pc (s.low.adds (s.tail.take (s.com - s.low.ix).toNat)).cs.length cc, .slice pd (donL (s.low.adds (s.tail.take (s.com - s.low.ix).toNat)) 4).length cd]) (results_cell_row rfl _ _ _ _ _ _ _ rfl hA9 Tryd.underlying25 rfl infoTb) rfl ⟨_, rfl, ⟨pc, cc, pd, cd, rfl, hQ9.c, hQ9.d⟩, hB9⟩

end Go.Proofs.YtnbgdkdnlfomeaaDoor.M

namespace Go.Proofs.YtnbgdkdnlfomeaaDoor.M
open Go.ChangeShapes Go.WideShapes Go.ChangeAt Go.RowKit Go.ChangeMaps Go.MapKept Go.Maps Go.Shelf Go.Proofs
set_option linter.unusedSimpArgs false

/-- A load of a row, by an operation that is guarded and wanted. -/
theorem wpList_load_rowG {P : Program} {ops : Array Oper} {rest : List Oper} {o : Oper} {a : Act} {w : World} {Q : Exit → Act → World → Prop} (hw : Region.wanted o (yielded ops a.tmps) = true) (ty : TypeId) (x : Operand) (ho : o.op = .load ty x)
    (g : Nat) (hx : a.eval x = .pointer (some ⟨g, 0, none⟩)) (t : TypeId) (cs : Array Value) (fr : Nat × Nat) (d : TypeDesc) (hg : w.heap[g]? = some (.cells cs t fr))
    (hu : P.underlying ty = some d) (hd : (match d with | .struct _ | .array _ _ => true | _ => false) = true) (hi : (P.info? ty).map (·.size) = some cs.size)
    (h : wpList P ops Q rest (a.put o.dst (.agg cs)) w) : wpList P ops Q (o :: rest) a w :=
  wpList_step fun K hK => by
    rw [if_pos hw]
    exact wp_load_row ty x ho g hx t cs fr d hg hu hd hi (hK _ _ h)

/-- A list literal of one, by an operation that is wanted. -/
theorem wpList_bslG {P : Program} {ops : Array Oper} {rest : List Oper} {o : Oper} {a : Act} {w : World} {Q : Exit → Act → World → Prop} (hw : Region.wanted o (yielded ops a.tmps) = true) (t : TypeId) (n i : Nat) (x : Operand) (ho : o.op = .buildSlice t n #[(i, x)])
    (u : Value) (hx : a.eval x = u) (v : Value) (w' : World) (hrun : (Instr.buildSlice t n #[(i, u)]).run P w = .ok v w')
    (h : wpList P ops Q rest (a.put o.dst v) w') : wpList P ops Q (o :: rest) a w :=
  wpList_step fun K hK => by
    rw [if_pos hw]
    refine wp_value v w' ?_ (hK _ _ h)
    subst hx
    simp only [ho, execOp, List.map_toArray, List.map_cons, List.map_nil]
    clear h hK
    generalize Instr.buildSlice t n #[(i, a.eval x)] = I at *
    simp [go_sem, hrun, Result.andThen]

set_option maxRecDepth 20000 in
theorem bsl_do (d : Dv) (w : World) : (Instr.buildSlice 26 1 #[(0, .agg #[.int .i64 d.op, .int .i64 d.ep, .int .i64 d.i, .bool d.nr, .int .u8 (bt d.k 0), .int .u8 (bt d.k 1), .int .u8 (bt d.k 2), .int .u8 (bt d.k 3), .int .u8 (bt d.k 4), .int .u8 (bt d.k 5), .int .u8 (bt d.k 6), .int .u8 (bt d.k 7), .string d.s, .int .i64 d.c, .int .i64 d.q, .int .i64 d.x.ix, .int .i64 d.x.ep, .int .u8 (bt d.x.k 0), .int .u8 (bt d.x.k 1), .int .u8 (bt d.x.k 2), .int .u8 (bt d.x.k 3), .int .u8 (bt d.x.k 4), .int .u8 (bt d.x.k 5), .int .u8 (bt d.x.k 6), .int .u8 (bt d.x.k 7), .int .i64 d.x.v, .string d.x.s, .int .i64 d.x.c, .int .i64 d.x.q])]).run Tryd.prog w = .ok (.slice (some ⟨w.heap.size, 0, none⟩) 1 1) (w.alloc (.cells #[.int .i64 d.op, .int .i64 d.ep, .int .i64 d.i, .bool d.nr, .int .u8 (bt d.k 0), .int .u8 (bt d.k 1), .int .u8 (bt d.k 2), .int .u8 (bt d.k 3), .int .u8 (bt d.k 4), .int .u8 (bt d.k 5), .int .u8 (bt d.k 6), .int .u8 (bt d.k 7), .string d.s, .int .i64 d.c, .int .i64 d.q, .int .i64 d.x.ix, .int .i64 d.x.ep, .int .u8 (bt d.x.k 0), .int .u8 (bt d.x.k 1), .int .u8 (bt d.x.k 2), .int .u8 (bt d.x.k 3), .int .u8 (bt d.x.k 4), .int .u8 (bt d.x.k 5), .int .u8 (bt d.x.k 6), .int .u8 (bt d.x.k 7), .int .i64 d.x.v, .string d.x.s, .int .i64 d.x.c, .int .i64 d.x.q] 73)) := by
  have hu := Tryd.underlying26
  have hz := Tryd.zeroValue73
  have hs : (sizeOf 73).run Tryd.prog w = .ok 29 w := by go_simp
  simp [Instr.buildSlice, run_underlying hu, hz, hs, go_sem]

/-- Marks: whose a block is (0: of no shelf). -/
structure MO (w : World) (own : Nat → Nat) (W : World) : Prop where
  bel : Below w.heap.size w W
  pos : ∀ k, own k ≠ 0 → w.heap.size ≤ k ∧ k < W.heap.size

theorem MO.none (w W : World) (h : Below w.heap.size w W) : MO w (fun _ => 0) W := ⟨h, fun _ e => absurd rfl e⟩

theorem MO.below {w : World} {own : Nat → Nat} {W W' : World} (h : MO w own W) (hb : Below W.heap.size W W') : MO w own W' :=
  ⟨h.bel.trans (hb.mono h.bel.size), fun k hk => ⟨(h.pos k hk).1, Nat.lt_of_lt_of_le (h.pos k hk).2 hb.size⟩⟩

/-- Marks behind a step: what is new is i's. -/
def mkO (own : Nat → Nat) (V W : World) (i : Nat) : Nat → Nat := fun k => if k < V.heap.size then own k else if k < W.heap.size then i else 0

theorem mkO_old {own : Nat → Nat} {V W : World} {i k : Nat} (h : k < V.heap.size) : mkO own V W i k = own k := if_pos h

theorem mkO_new {own : Nat → Nat} {V W : World} {i k : Nat} (h : V.heap.size ≤ k) (h2 : k < W.heap.size) : mkO own V W i k = i := by
  unfold mkO
  rw [if_neg (by omega), if_pos h2]

/-- What a step of shelf i changes. -/
def Stp (own : Nat → Nat) (i : Nat) (V W : World) : Prop := Ch (fun k => own k = i) V W

theorem Stp.of_below {own : Nat → Nat} {i : Nat} {V W : World} (h : Below V.heap.size V W) : Stp own i V W := Ch.of_below h _

theorem MO.step {w : World} {own : Nat → Nat} {i : Nat} {V W : World} (h : MO w own V) (hi : i ≠ 0) (hc : Stp own i V W) : MO w (mkO own V W i) W := by
  have hs := h.bel.size
  have hs2 := Ch.size hc
  refine ⟨h.bel.trans (Ch.below hc hs fun k hk => (h.pos k (by rw [hk]; exact hi)).1), fun k hk => ?_⟩
  unfold mkO at hk
  split at hk
  · have := h.pos k hk; omega
  · split at hk
    · omega
    · exact absurd rfl hk

/-- A shelf whose blocks bear a mark. -/
structure SM (own : Nat → Nat) (i : Nat) (W : World) (g : Nat) (s : Sh) (b : Nat) (q : Option Addr) (n c : Nat) : Prop where
  sh : ShB W g b q n c s
  og : own g = i
  ob : own b = i
  om : ∀ k, mine q c k → own k = i

def SX (own : Nat → Nat) (i : Nat) (W : World) (g : Nat) (s : Sh) : Prop := ∃ b q n c, SM own i W g s b q n c

theorem SX.inv {own : Nat → Nat} {i : Nat} {W : World} {g : Nat} {s : Sh} (h : SX own i W g s) : s.inv := by
  obtain ⟨b, q, n, c, h⟩ := h
  exact h.sh.inv

theorem SX.below {own : Nat → Nat} {i : Nat} {W W' : World} {g : Nat} {s : Sh} (h : SX own i W g s) (hb : Below W.heap.size W W') : SX own i W' g s := by
  obtain ⟨b, q, n, c, h⟩ := h
  exact ⟨b, q, n, c, h.sh.below hb, h.og, h.ob, h.om⟩

theorem SX.stays (own : Nat → Nat) (i : Nat) (g : Nat) (s : Sh) : Stays (fun W => SX own i W g s) := fun _ _ h hb => h.below hb

theorem SX.other {own : Nat → Nat} {i j : Nat} {V W : World} {g : Nat} {s : Sh} (h : SX own j V g s) (hc : Stp own i V W) (hij : j ≠ i) : SX (mkO own V W i) j W g s := by
  obtain ⟨b, q, n, c, h⟩ := h
  have hg := At.lt h.sh.blk
  have hb := h.sh.mp.lt
  have hm := fun k hk => (h.sh.tl.lt (k := k) hk).2
  refine ⟨b, q, n, c, ⟨At.same h.sh.blk (Ch.block hc g hg (by rw [h.og]; exact hij)), h.sh.mp.kept (Ch.block hc b hb (by rw [h.ob]; exact hij)), h.sh.tl.ch hc (fun k hk => by rw [h.om k hk]; exact hij), h.sh.inv, h.sh.gt⟩, ?_, ?_, fun k hk => ?_⟩
  · rw [mkO_old hg]; exact h.og
  · rw [mkO_old hb]; exact h.ob
  · rw [mkO_old (hm k hk)]; exact h.om k hk

theorem At.other {own : Nat → Nat} {i : Nat} {V W : World} {t : TypeId} {g : Nat} {cs : Array Value} (h : At t V g cs) (hc : Stp own i V W) (hg : own g = 0) (hi : i ≠ 0) : At t W g cs :=
  At.same h (Ch.block hc g (At.lt h) (by rw [hg]; exact fun e => hi e.symm))

theorem SM.step {own : Nat → Nat} {i : Nat} {V W : World} {g : Nat} {s : Sh} {b : Nat} {q : Option Addr} {n c : Nat} (h : SM own i V g s b q n c) {s' : Sh} {b' : Nat} {q' : Option Addr} {n' c' : Nat} (hG : GS V g b' q c q' n' c' s' W) (hb : b' = b ∨ V.heap.size ≤ b') : Stp own i V W ∧ SX (mkO own V W i) i W g s' := by
  have hg := At.lt h.sh.blk
  have hbl := h.sh.mp.lt
  have hbl' := hG.sh.mp.lt
  refine ⟨hG.ch.mono fun k _ hk => ?_, b', q', n', c', hG.sh, ?_, ?_, fun k hk => ?_⟩
  · rcases hk with rfl | hk
    · exact h.og
    · exact h.om k hk
  · rw [mkO_old hg]; exact h.og
  · rcases hb with rfl | hb
    · rw [mkO_old hbl]; exact h.ob
    · exact mkO_new hb hbl'
  · have hlt := (hG.sh.tl.lt (k := k) hk).2
    rcases hG.new k hk with hk2 | hk2
    · rw [mkO_old (h.sh.tl.lt (k := k) hk2).2]; exact h.om k hk2
    · exact mkO_new hk2 hlt

theorem CZ.sx {own : Nat → Nat} {i : Nat} {V W : World} {g : Nat} {s : Sh} {b : Nat} {q : Option Addr} {n c : Nat} (h : CZ V g b q n c s W) : Stp own i V W ∧ SX (mkO own V W i) i W g s :=
  ⟨Stp.of_below h.bl.out, b, q, n, c, h.sh, mkO_new h.ng (At.lt h.sh.blk), mkO_new h.nb h.sh.mp.lt, fun k hk => mkO_new (h.nm k hk) (h.sh.tl.lt (k := k) hk).2⟩

theorem doesX {own : Nat → Nat} {i : Nat} {V : World} {g : Nat} {s : Sh} (h : SX own i V g s) (d : Dv) (hd : okD d) (hT : Tabs V) :
    Calls Tryd.prog 39 #[.pointer (some ⟨g, 0, none⟩), .agg #[.int .i64 d.op, .int .i64 d.ep, .int .i64 d.i, .bool d.nr, .int .u8 (bt d.k 0), .int .u8 (bt d.k 1), .int .u8 (bt d.k 2), .int .u8 (bt d.k 3), .int .u8 (bt d.k 4), .int .u8 (bt d.k 5), .int .u8 (bt d.k 6), .int .u8 (bt d.k 7), .string d.s, .int .i64 d.c, .int .i64 d.q, .int .i64 d.x.ix, .int .i64 d.x.ep, .int .u8 (bt d.x.k 0), .int .u8 (bt d.x.k 1), .int .u8 (bt d.x.k 2), .int .u8 (bt d.x.k 3), .int .u8 (bt d.x.k 4), .int .u8 (bt d.x.k 5), .int .u8 (bt d.x.k 6), .int .u8 (bt d.x.k 7), .int .i64 d.x.v, .string d.x.s, .int .i64 d.x.c, .int .i64 d.x.q]] V fun e W => e = .returned (.tuple #[.agg #[.int .i64 (s.doR d).1.ix, .int .i64 (s.doR d).1.ep, .int .u8 (bt (s.doR d).1.k 0), .int .u8 (bt (s.doR d).1.k 1), .int .u8 (bt (s.doR d).1.k 2), .int .u8 (bt (s.doR d).1.k 3), .int .u8 (bt (s.doR d).1.k 4), .int .u8 (bt (s.doR d).1.k 5), .int .u8 (bt (s.doR d).1.k 6), .int .u8 (bt (s.doR d).1.k 7), .int .i64 (s.doR d).1.v, .string (s.doR d).1.s, .int .i64 (s.doR d).1.c, .int .i64 (s.doR d).1.q], .int .i64 (s.doR d).2.1]) ∧ Stp own i V W ∧ SX (mkO own V W i) i W g (s.doR d).2.2 := by
  obtain ⟨b, q, n, c, h⟩ := h
  refine (does_any h.sh d hd.1 hd.2.1 hd.2.2.1 hd.2.2.2 hT).mono ?_
  rintro e W ⟨rfl, b', q', n', c', hG, hb⟩
  exact ⟨rfl, h.step hG hb⟩

theorem cloneX (own : Nat → Nat) {i j : Nat} {V : World} {g : Nat} {s : Sh} (h : SX own i V g s) :
    Calls Tryd.prog 30 #[.pointer (some ⟨g, 0, none⟩)] V fun e W => ∃ g', e = .returned (.pointer (some ⟨g', 0, none⟩)) ∧ Below V.heap.size V W ∧ Stp own j V W ∧ SX (mkO own V W j) j W g' s := by
  obtain ⟨b, q, n, c, h⟩ := h
  refine (sclone_any h.sh).mono ?_
  rintro e W ⟨g', b', p', c', rfl, hZ⟩
  exact ⟨g', rfl, hZ.bl.out, hZ.sx⟩

theorem madeX (own : Nat → Nat) (i : Nat) (ix ep : Int) (cp : Option Addr) (cn cc : Nat) (dp : Option Addr) (dn dc : Nat) (C : List Ce) (D : List Dn) (V : World) (hC : RdG celS V cp cn cc C) (hD : RdG donS V dp dn dc D) (hn : dn ≤ 1099511627776)
    (hck : ∀ c ∈ C, c.k < 18446744073709551616 ∧ c.s.size ≤ 9223372036854775807) (hTa : Tabs V) (hcn : cn ≤ 1099511627776) (hok : chkE ix ep C D = 0)
    (p : Option Addr) (n c : Nat) (ds : List Dv) (hr : RdG dooS V p n c ds) (hds : ∀ d ∈ ds, okD d) (hnn : n ≤ 9223372036854775807) :
    Calls Tryd.prog 13 #[.agg #[.int .i64 ix, .int .i64 ep, .slice cp cn cc, .slice dp dn dc], .slice p n c] V fun e W => ∃ g, e = .returned (.pointer (some ⟨g, 0, none⟩)) ∧ Below V.heap.size V W ∧ Stp own i V W ∧ SX (mkO own V W i) i W g ((frS ix ep C D).runs ds) := by
  refine (made_any ix ep cp cn cc dp dn dc C D V hC hD hn hck hTa hcn hok p n c ds hr hds hnn).mono ?_
  rintro e W ⟨g, rfl, b, q, m, d, hZ⟩
  exact ⟨g, rfl, hZ.bl.out, hZ.sx⟩

theorem beh_all {s : Sh} (h : s.inv) : s.isAt s.low.ix ∧ s.beh s.low.ix 99 = s.tail := by
  have h1 := h.few
  refine ⟨⟨Int.le_refl _, by unfold Sh.last; omega⟩, ?_⟩
  unfold Sh.beh
  rw [show (s.low.ix - s.low.ix).toNat = 0 by omega, List.drop_zero]
  exact List.take_of_length_le (by show s.tail.length ≤ 99; omega)

theorem behX {own : Nat → Nat} {i : Nat} {V : World} {g : Nat} {s : Sh} (h : SX own i V g s) {x : Int} (hx : x = s.low.ix) :
    Calls Tryd.prog 16 #[.pointer (some ⟨g, 0, none⟩), .int .i64 x, .int .i64 99] V fun e W => ∃ p c, e = .returned (.tuple #[.slice p s.tail.length c, .bool true]) ∧ RdG recS W p s.tail.length c s.tail ∧ Below V.heap.size V W := by
  subst hx
  obtain ⟨b, q, n, c, h⟩ := h
  obtain ⟨h1, h2⟩ := beh_all h.sh.inv
  have h3 := behind_in h.sh s.low.ix 99 h1
  rw [h2] at h3
  refine h3.mono ?_
  rintro e W ⟨p', c', rfl, ho, hb⟩
  exact ⟨p', c', rfl, ho.rd, hb⟩

theorem lowX {own : Nat → Nat} {i : Nat} {V : World} {g : Nat} {s : Sh} (h : SX own i V g s) : Calls Tryd.prog 17 #[.pointer (some ⟨g, 0, none⟩)] V fun e w' => e = .returned (.int .i64 s.low.ix) ∧ Below V.heap.size V w' := by
  obtain ⟨b, q, n, c, h⟩ := h
  refine (low_any h.sh).mono ?_
  rintro e W ⟨rfl, rfl⟩
  exact ⟨rfl, Below.refl _ _⟩

theorem commitX {own : Nat → Nat} {i : Nat} {V : World} {g : Nat} {s : Sh} (h : SX own i V g s) : Calls Tryd.prog 15 #[.pointer (some ⟨g, 0, none⟩)] V fun e w' => e = .returned (.int .i64 s.com) ∧ Below V.heap.size V w' := by
  obtain ⟨b, q, n, c, h⟩ := h
  refine (commit_any h.sh).mono ?_
  rintro e W ⟨rfl, rfl⟩
  exact ⟨rfl, Below.refl _ _⟩

theorem topX {own : Nat → Nat} {i : Nat} {V : World} {g : Nat} {s : Sh} (h : SX own i V g s) (k : Nat) (hk : k < 18446744073709551616) :
    Calls Tryd.prog 29 #[.pointer (some ⟨g, 0, none⟩), .agg #[.int .u8 (bt (k) 0), .int .u8 (bt (k) 1), .int .u8 (bt (k) 2), .int .u8 (bt (k) 3), .int .u8 (bt (k) 4), .int .u8 (bt (k) 5), .int .u8 (bt (k) 6), .int .u8 (bt (k) 7)]] V fun e w' => e = .returned (.agg #[.int .u8 (bt ((lookC (s.low.adds s.tail).cs k).getD .z0).k 0), .int .u8 (bt ((lookC (s.low.adds s.tail).cs k).getD .z0).k 1), .int .u8 (bt ((lookC (s.low.adds s.tail).cs k).getD .z0).k 2), .int .u8 (bt ((lookC (s.low.adds s.tail).cs k).getD .z0).k 3), .int .u8 (bt ((lookC (s.low.adds s.tail).cs k).getD .z0).k 4), .int .u8 (bt ((lookC (s.low.adds s.tail).cs k).getD .z0).k 5), .int .u8 (bt ((lookC (s.low.adds s.tail).cs k).getD .z0).k 6), .int .u8 (bt ((lookC (s.low.adds s.tail).cs k).getD .z0).k 7), .int .i64 ((lookC (s.low.adds s.tail).cs k).getD .z0).v, .string ((lookC (s.low.adds s.tail).cs k).getD .z0).s]) ∧ Below V.heap.size V w' := by
  obtain ⟨b, q, n, c, h⟩ := h
  exact top_any h.sh k hk

theorem cleanX {own : Nat → Nat} {i : Nat} {V : World} {g : Nat} {s : Sh} (h : SX own i V g s) (k : Nat) (hk : k < 18446744073709551616) :
    Calls Tryd.prog 26 #[.pointer (some ⟨g, 0, none⟩), .agg #[.int .u8 (bt (k) 0), .int .u8 (bt (k) 1), .int .u8 (bt (k) 2), .int .u8 (bt (k) 3), .int .u8 (bt (k) 4), .int .u8 (bt (k) 5), .int .u8 (bt (k) 6), .int .u8 (bt (k) 7)]] V fun e w' => e = .returned (.agg #[.int .u8 (bt ((lookC (s.low.adds (s.tail.take (s.com - s.low.ix).toNat)).cs k).getD .z0).k 0), .int .u8 (bt ((lookC (s.low.adds (s.tail.take (s.com - s.low.ix).toNat)).cs k).getD .z0).k 1), .int .u8 (bt ((lookC (s.low.adds (s.tail.take (s.com - s.low.ix).toNat)).cs k).getD .z0).k 2), .int .u8 (bt ((lookC (s.low.adds (s.tail.take (s.com - s.low.ix).toNat)).cs k).getD .z0).k 3), .int .u8 (bt ((lookC (s.low.adds (s.tail.take (s.com - s.low.ix).toNat)).cs k).getD .z0).k 4), .int .u8 (bt ((lookC (s.low.adds (s.tail.take (s.com - s.low.ix).toNat)).cs k).getD .z0).k 5), .int .u8 (bt ((lookC (s.low.adds (s.tail.take (s.com - s.low.ix).toNat)).cs k).getD .z0).k 6), .int .u8 (bt ((lookC (s.low.adds (s.tail.take (s.com - s.low.ix).toNat)).cs k).getD .z0).k 7), .int .i64 ((lookC (s.low.adds (s.tail.take (s.com - s.low.ix).toNat)).cs k).getD .z0).v, .string ((lookC (s.low.adds (s.tail.take (s.com - s.low.ix).toNat)).cs k).getD .z0).s]) ∧ Below V.heap.size V w' := by
  obtain ⟨b, q, n, c, h⟩ := h
  exact clean_any h.sh k hk

theorem lastX {own : Nat → Nat} {i : Nat} {V : World} {g : Nat} {s : Sh} (h : SX own i V g s) : Calls Tryd.prog 32 #[.pointer (some ⟨g, 0, none⟩)] V fun e w' => e = .returned (.tuple #[.int .i64 s.last, .int .i64 (endS s.low s.tail).2]) ∧ Below V.heap.size V w' := by
  obtain ⟨b, q, n, c, h⟩ := h
  exact last2_any h.sh

theorem dirtyX {own : Nat → Nat} {i : Nat} {V : World} {g : Nat} {s : Sh} (h : SX own i V g s) : Calls Tryd.prog 33 #[.pointer (some ⟨g, 0, none⟩)] V fun e w' => e = .returned (.int .i64 (s.last - s.com)) ∧ Below V.heap.size V w' := by
  obtain ⟨b, q, n, c, h⟩ := h
  exact dirty_any h.sh

theorem tabX {own : Nat → Nat} {i : Nat} {V : World} {g : Nat} {s : Sh} (h : SX own i V g s) (hk : s.kn) : Calls Tryd.prog 14 #[.pointer (some ⟨g, 0, none⟩)] V fun e w' => ∃ v, e = .returned v ∧ TabR w' v s.low ∧ Below V.heap.size V w' := by
  obtain ⟨b, q, n, c, h⟩ := h
  exact tabM_any h.sh hk.low

theorem wholeX {own : Nat → Nat} {i : Nat} {V : World} {g : Nat} {s : Sh} (h : SX own i V g s) (hk : s.kn) : Calls Tryd.prog 35 #[.pointer (some ⟨g, 0, none⟩)] V fun e w' => ∃ v, e = .returned v ∧ TabR w' v (s.low.adds (s.tail.take (s.com - s.low.ix).toNat)) ∧ Below V.heap.size V w' := by
  obtain ⟨b, q, n, c, h⟩ := h
  exact whole_any h.sh hk

theorem donL_len (m : Sm) : ∀ k, (donL m k).length ≤ k
  | 0 => Nat.le_refl _
  | k + 1 => by
    have h := donL_len m k
    by_cases hq : 0 < (m.d k).q
    · rw [donL_yes hq]; simp; omega
    · rw [donL_no hq]; omega

/-- Two tables that tell the same sums. -/
theorem sameX {V : World} {m : Sm} {v v2 : Value} (h : TabR V v m) (h2 : TabR V v2 m) (hn : m.cs.length ≤ 12) : Calls Tryd.prog 34 #[v, v2] V fun e w' => e = .returned (.bool true) ∧ Below V.heap.size V w' := by
  obtain ⟨pc, cc, pd, cd, rfl, h1, h3⟩ := h
  obtain ⟨pc2, cc2, pd2, cd2, rfl, h4, h5⟩ := h2
  exact sameT_any m.ix m.ep h1 h4 h3 h5 (by omega) (by have := donL_len m 4; omega)

/-- Two lists of calls, one of one call. -/
theorem short2_any {w : World} {p : Option Addr} {n c : Nat} {ds : List Dv} (hr : RdG dooS w p n c ds) (hn : n ≤ 9223372036854775807) (d : Dv) :
    Calls Tryd.prog 10 #[.slice (some ⟨w.heap.size + 1, 0, none⟩) 2 2] ((w.alloc (.cells #[.int .i64 d.op, .int .i64 d.ep, .int .i64 d.i, .bool d.nr, .int .u8 (bt d.k 0), .int .u8 (bt d.k 1), .int .u8 (bt d.k 2), .int .u8 (bt d.k 3), .int .u8 (bt d.k 4), .int .u8 (bt d.k 5), .int .u8 (bt d.k 6), .int .u8 (bt d.k 7), .string d.s, .int .i64 d.c, .int .i64 d.q, .int .i64 d.x.ix, .int .i64 d.x.ep, .int .u8 (bt d.x.k 0), .int .u8 (bt d.x.k 1), .int .u8 (bt d.x.k 2), .int .u8 (bt d.x.k 3), .int .u8 (bt d.x.k 4), .int .u8 (bt d.x.k 5), .int .u8 (bt d.x.k 6), .int .u8 (bt d.x.k 7), .int .i64 d.x.v, .string d.x.s, .int .i64 d.x.c, .int .i64 d.x.q] 73)).alloc (.cells #[.slice p n c, .slice (some ⟨w.heap.size, 0, none⟩) 1 1] 26)) fun e w' => IsBP (n ≤ 120) e ∧ Below w.heap.size w w' := by
  have h0 := below_alloc' w (.cells #[.int .i64 d.op, .int .i64 d.ep, .int .i64 d.i, .bool d.nr, .int .u8 (bt d.k 0), .int .u8 (bt d.k 1), .int .u8 (bt d.k 2), .int .u8 (bt d.k 3), .int .u8 (bt d.k 4), .int .u8 (bt d.k 5), .int .u8 (bt d.k 6), .int .u8 (bt d.k 7), .string d.s, .int .i64 d.c, .int .i64 d.q, .int .i64 d.x.ix, .int .i64 d.x.ep, .int .u8 (bt d.x.k 0), .int .u8 (bt d.x.k 1), .int .u8 (bt d.x.k 2), .int .u8 (bt d.x.k 3), .int .u8 (bt d.x.k 4), .int .u8 (bt d.x.k 5), .int .u8 (bt d.x.k 6), .int .u8 (bt d.x.k 7), .int .i64 d.x.v, .string d.x.s, .int .i64 d.x.c, .int .i64 d.x.q] 73)
  have h1 := below_alloc' (w.alloc (.cells #[.int .i64 d.op, .int .i64 d.ep, .int .i64 d.i, .bool d.nr, .int .u8 (bt d.k 0), .int .u8 (bt d.k 1), .int .u8 (bt d.k 2), .int .u8 (bt d.k 3), .int .u8 (bt d.k 4), .int .u8 (bt d.k 5), .int .u8 (bt d.k 6), .int .u8 (bt d.k 7), .string d.s, .int .i64 d.c, .int .i64 d.q, .int .i64 d.x.ix, .int .i64 d.x.ep, .int .u8 (bt d.x.k 0), .int .u8 (bt d.x.k 1), .int .u8 (bt d.x.k 2), .int .u8 (bt d.x.k 3), .int .u8 (bt d.x.k 4), .int .u8 (bt d.x.k 5), .int .u8 (bt d.x.k 6), .int .u8 (bt d.x.k 7), .int .i64 d.x.v, .string d.x.s, .int .i64 d.x.c, .int .i64 d.x.q] 73)) (.cells #[.slice p n c, .slice (some ⟨w.heap.size, 0, none⟩) 1 1] 26)
  have hs : (w.alloc (.cells #[.int .i64 d.op, .int .i64 d.ep, .int .i64 d.i, .bool d.nr, .int .u8 (bt d.k 0), .int .u8 (bt d.k 1), .int .u8 (bt d.k 2), .int .u8 (bt d.k 3), .int .u8 (bt d.k 4), .int .u8 (bt d.k 5), .int .u8 (bt d.k 6), .int .u8 (bt d.k 7), .string d.s, .int .i64 d.c, .int .i64 d.q, .int .i64 d.x.ix, .int .i64 d.x.ep, .int .u8 (bt d.x.k 0), .int .u8 (bt d.x.k 1), .int .u8 (bt d.x.k 2), .int .u8 (bt d.x.k 3), .int .u8 (bt d.x.k 4), .int .u8 (bt d.x.k 5), .int .u8 (bt d.x.k 6), .int .u8 (bt d.x.k 7), .int .i64 d.x.v, .string d.x.s, .int .i64 d.x.c, .int .i64 d.x.q] 73)).heap.size = w.heap.size + 1 := by simp
  have hA := (rd_of1 dooS (t := 73) w d #[.int .i64 d.op, .int .i64 d.ep, .int .i64 d.i, .bool d.nr, .int .u8 (bt d.k 0), .int .u8 (bt d.k 1), .int .u8 (bt d.k 2), .int .u8 (bt d.k 3), .int .u8 (bt d.k 4), .int .u8 (bt d.k 5), .int .u8 (bt d.k 6), .int .u8 (bt d.k 7), .string d.s, .int .i64 d.c, .int .i64 d.q, .int .i64 d.x.ix, .int .i64 d.x.ep, .int .u8 (bt d.x.k 0), .int .u8 (bt d.x.k 1), .int .u8 (bt d.x.k 2), .int .u8 (bt d.x.k 3), .int .u8 (bt d.x.k 4), .int .u8 (bt d.x.k 5), .int .u8 (bt d.x.k 6), .int .u8 (bt d.x.k 7), .int .i64 d.x.v, .string d.x.s, .int .i64 d.x.c, .int .i64 d.x.q] rfl).below h1
  have hL := At.new 26 (w.alloc (.cells #[.int .i64 d.op, .int .i64 d.ep, .int .i64 d.i, .bool d.nr, .int .u8 (bt d.k 0), .int .u8 (bt d.k 1), .int .u8 (bt d.k 2), .int .u8 (bt d.k 3), .int .u8 (bt d.k 4), .int .u8 (bt d.k 5), .int .u8 (bt d.k 6), .int .u8 (bt d.k 7), .string d.s, .int .i64 d.c, .int .i64 d.q, .int .i64 d.x.ix, .int .i64 d.x.ep, .int .u8 (bt d.x.k 0), .int .u8 (bt d.x.k 1), .int .u8 (bt d.x.k 2), .int .u8 (bt d.x.k 3), .int .u8 (bt d.x.k 4), .int .u8 (bt d.x.k 5), .int .u8 (bt d.x.k 6), .int .u8 (bt d.x.k 7), .int .i64 d.x.v, .string d.x.s, .int .i64 d.x.c, .int .i64 d.x.q] 73)) #[.slice p n c, .slice (some ⟨w.heap.size, 0, none⟩) 1 1]
  rw [hs] at hL
  have hB := (hr.below h0).below h1
  have hb := h0.trans (h1.mono h0.size)
  generalize ((w.alloc (.cells #[.int .i64 d.op, .int .i64 d.ep, .int .i64 d.i, .bool d.nr, .int .u8 (bt d.k 0), .int .u8 (bt d.k 1), .int .u8 (bt d.k 2), .int .u8 (bt d.k 3), .int .u8 (bt d.k 4), .int .u8 (bt d.k 5), .int .u8 (bt d.k 6), .int .u8 (bt d.k 7), .string d.s, .int .i64 d.c, .int .i64 d.q, .int .i64 d.x.ix, .int .i64 d.x.ep, .int .u8 (bt d.x.k 0), .int .u8 (bt d.x.k 1), .int .u8 (bt d.x.k 2), .int .u8 (bt d.x.k 3), .int .u8 (bt d.x.k 4), .int .u8 (bt d.x.k 5), .int .u8 (bt d.x.k 6), .int .u8 (bt d.x.k 7), .int .i64 d.x.v, .string d.x.s, .int .i64 d.x.c, .int .i64 d.x.q] 73)).alloc (.cells #[.slice p n c, .slice (some ⟨w.heap.size, 0, none⟩) 1 1] 26)) = W at *
  have h := short_any (w := W) (g2 := w.heap.size + 1) (m := 2) (fun i => if i = 0 then p else some ⟨w.heap.size, 0, none⟩) (fun i => if i = 0 then n else 1) (fun i => if i = 0 then c else 1) (fun i => if i = 0 then ds else [d]) (by omega) (fun i hi => by
    match i, hi with
    | 0, _ => exact ⟨hL.cell 0, hB⟩
    | 1, _ => exact ⟨hL.cell 1, hA⟩) (fun i hi => by
    match i, hi with
    | 0, _ => exact hn
    | 1, _ => exact (by decide : 1 ≤ 9223372036854775807))
  refine h.mono ?_
  rintro e w' ⟨⟨b, rfl, hb2⟩, hb3⟩
  exact ⟨⟨b, rfl, fun e => hb2 e 0 (by omega)⟩, hb.trans (hb3.mono hb.size)⟩

/-- One list of calls. -/
theorem shortL_any {w : World} {p : Option Addr} {n c : Nat} {ds : List Dv} (hr : RdG dooS w p n c ds) (hn : n ≤ 9223372036854775807) :
    Calls Tryd.prog 10 #[.slice (some ⟨w.heap.size, 0, none⟩) 1 1] (w.alloc (.cells #[.slice p n c] 26)) fun e w' => IsBP (n ≤ 120) e ∧ Below w.heap.size w w' := by
  have h0 := below_alloc' w (.cells #[.slice p n c] 26)
  have hL := At.new 26 w #[.slice p n c]
  have hB := hr.below h0
  generalize (w.alloc (.cells #[.slice p n c] 26)) = W at *
  have h := short_any (w := W) (g2 := w.heap.size) (m := 1) (fun _ => p) (fun _ => n) (fun _ => c) (fun _ => ds) (by omega) (fun i hi => by
    match i, hi with
    | 0, _ => exact ⟨hL.cell 0, hB⟩) (fun i hi => hn)
  refine h.mono ?_
  rintro e w' ⟨⟨b, rfl, hb2⟩, hb3⟩
  exact ⟨⟨b, rfl, fun e => hb2 e 0 (by omega)⟩, h0.trans (hb3.mono h0.size)⟩

end Go.Proofs.YtnbgdkdnlfomeaaDoor.M

namespace Go.Proofs.YtnbgdkdnlfomeaaDoor.M
open Go.ChangeShapes Go.WideShapes Go.ChangeAt Go.RowKit Go.ChangeMaps Go.MapKept Go.Maps Go.Shelf Go.Proofs
set_option linter.unusedSimpArgs false

/-- All that stood is as it was, and these cells lie in block g, which is new. -/
structure NBG (w : World) (t : TypeId) (g : Nat) (cs : Array Value) (W : World) : Prop where
  bl : Bl w W
  ce : At t W g cs
  new : w.heap.size ≤ g

theorem NBG.stays (w : World) (t : TypeId) (g : Nat) (cs : Array Value) : Stays (NBG w t g cs) := fun _ _ h hb => ⟨Bl.stays w _ _ h.bl hb, At.below h.ce hb, h.new⟩

/-- What is known of a request. -/
def knwT (l : List Rc) (com : Int) (rc rq : Int) (d : Dn) : Int × Bool := match l.find? (fun x => x.c == rc && x.q == rq) with
  | some x => (x.v, decide (x.ix ≤ com))
  | none => if d.q = rq then (d.v, true) else (0, false)
def Sh.knw (s : Sh) (rc rq : Int) : Int × Bool := if isRq rc rq = true then knwT s.tail s.com rc rq (s.low.d rc.toNat) else (0, false)

theorem knwT_skip {l : List Rc} {com rc rq : Int} {d : Dn} {k : Nat} (hk : k < l.length) (h : ((l.getD k .z0).c == rc && (l.getD k .z0).q == rq) = false) : knwT (l.drop k) com rc rq d = knwT (l.drop (k + 1)) com rc rq d := by
  unfold knwT
  rw [List.drop_eq_getElem_cons hk, List.find?_cons_of_neg]
  rw [List.getD_eq_getElem?_getD, List.getElem?_eq_getElem hk] at h
  simpa using h

theorem knwT_hit {l : List Rc} {com rc rq : Int} {d : Dn} {k : Nat} (hk : k < l.length) (h : ((l.getD k .z0).c == rc && (l.getD k .z0).q == rq) = true) : knwT (l.drop k) com rc rq d = ((l.getD k .z0).v, decide ((l.getD k .z0).ix ≤ com)) := by
  unfold knwT
  rw [List.getD_eq_getElem?_getD, List.getElem?_eq_getElem hk] at *
  rw [List.drop_eq_getElem_cons hk, List.find?_cons_of_pos]
  · rfl
  · simpa using h

theorem knwT_end {l : List Rc} {com rc rq : Int} {d : Dn} {k : Nat} (hk : l.length ≤ k) : knwT (l.drop k) com rc rq d = if d.q = rq then (d.v, true) else (0, false) := by
  unfold knwT
  rw [List.drop_of_length_le hk]
  rfl

theorem ShB.dcell {w : World} {g b : Nat} {p : Option Addr} {n c : Nat} {s : Sh} (h : ShB w g b p n c s) (cn : Nat) (hc : cn < 4) : w.cell? ⟨g, 3 + cn * 3, none⟩ = some (.int .i64 (s.low.d cn).c) ∧ w.cell? ⟨g, 3 + cn * 3 + 1, none⟩ = some (.int .i64 (s.low.d cn).q) ∧ w.cell? ⟨g, 3 + cn * 3 + 2, none⟩ = some (.int .i64 (s.low.d cn).v) := by
  match cn, hc with
  | 0, _ => exact ⟨At.cell h.blk 3, At.cell h.blk 4, At.cell h.blk 5⟩
  | 1, _ => exact ⟨At.cell h.blk 6, At.cell h.blk 7, At.cell h.blk 8⟩
  | 2, _ => exact ⟨At.cell h.blk 9, At.cell h.blk 10, At.cell h.blk 11⟩
  | 3, _ => exact ⟨At.cell h.blk 12, At.cell h.blk 13, At.cell h.blk 14⟩

theorem ret_pair {a a' : Int} {b b' : Bool} (h : (a, b) = (a', b')) : Ending.returned (.tuple #[.int .i64 a, .bool b]) = .returned (.tuple #[.int .i64 a', .bool b']) := by
  injection h with h1 h2
  rw [h1, h2]

set_option maxRecDepth 20000 in
set_option maxHeartbeats 2000000 in
theorem known_any {w : World} {g b : Nat} {p : Option Addr} {n c : Nat} {s : Sh} (h : ShB w g b p n c s) (rc rq : Int) :
    Calls Tryd.prog 20 #[.pointer (some ⟨g, 0, none⟩), .agg #[.int .i64 rc, .int .i64 rq]] w fun e w' => e = .returned (.tuple #[.int .i64 (s.knw rc rq).1, .bool (s.knw rc rq).2]) ∧ Below w.heap.size w w' := by
  have HB := below_alloc' w (.cells #[.int .i64 rc, .int .i64 rq] 30)
  have hX := At.new 30 w #[.int .i64 rc, .int .i64 rq]
  have hSh := h.below HB
  have hm := hSh.made
  have hI := isRq_any rc rq (w.alloc (.cells #[.int .i64 rc, .int .i64 rq] 30))
  have hXb : Hid (At 30 (w.alloc (.cells #[.int .i64 rc, .int .i64 rq] 30)) w.heap.size #[.int .i64 rc, .int .i64 rq]) := hX
  have HK : Hid (s.knw rc rq = if isRq rc rq = true then knwT (s.tail.drop 0) s.com rc rq (s.low.d rc.toNat) else (0, false)) := rfl
  have HQ : isRq rc rq = true → 0 ≤ rc ∧ rc < 4 := fun e => by unfold isRq at e; simp only [Bool.and_eq_true, decide_eq_true_eq] at e; omega
  generalize isRq rc rq = iq at *
  generalize s.knw rc rq = R at *
  clear h
  go_enter Tryd.func20, Tryd.ntmps20
  go_wp2_with fail
  generalize (w.alloc (.cells #[.int .i64 rc, .int .i64 rq] 30)) = w0 at *
  refine hm.mono ?_
  rintro e w1 ⟨rfl, rfl⟩
  have x0 := At.cell hX 0
  have x1 := At.cell hX 1
  simp only [List.getElem?_toArray, List.getElem?_cons_zero, List.getElem?_cons_succ] at x0 x1
  clear hm
  go_wp2_with fail
  refine hI.mono ?_
  rintro e w2 ⟨rfl, hb⟩
  clear x0 x1 hI
  replace HB := HB.trans (hb.mono HB.size)
  replace hSh := hSh.below hb
  replace hX := hX.below hb
  clear hb hXb
  cases iq with
  | false =>
    clear hX hSh
    go_wp2_with fail
    rw [HK.out]
    exact bodyPost_ret (v := .tuple #[.int .i64 0, .bool false]) (by simp [results, Tryd.results20, go_sem]) rfl ⟨rfl, HB⟩
  | true =>
    obtain ⟨hc0, hc4⟩ := HQ rfl
    clear HQ
    rw [if_pos rfl] at HK
    obtain ⟨_, zz15, zz16⟩ := hSh.cells
    have hrd := hSh.tl.rd
    have hln := hSh.len
    have hfw := hSh.inv.few
    obtain ⟨cn, rfl⟩ : ∃ cn : Nat, rc = cn := ⟨rc.toNat, by omega⟩
    have hc4' : cn < 4 := by omega
    rw [Int.toNat_natCast] at HK
    have hdc := fun W (h : Below w2.heap.size w2 W) => (hSh.below h).dcell cn hc4'
    generalize s.low.d cn = dd at HK hdc
    obtain ⟨dxc, dxq, dxv⟩ := dd
    dsimp only at hdc
    clear zz16
    go_wp2_with fail
    go_loopw [22] (fun i wr => ∃ (k : Nat), k ≤ n ∧ i = .int .i64 k ∧ Below w2.heap.size w2 wr ∧ Hid (R = knwT (s.tail.drop k) s.com cn rq ⟨dxc, dxq, dxv⟩)) (fun i _ => n - (intOf i).toNat)
    case atStart => exact ⟨0, Nat.zero_le _, rfl, Below.refl _ _, HK⟩
    case round =>
      clear HK
      obtain ⟨k, hk, rfl, hb, HK⟩ := hrel
      by_cases hkn : k < n
      · as_aux_lemma =>
        have hki : (k : Int) < (n : Int) := by omega
        obtain ⟨bb, o, rfl, _⟩ := hrd.at (by omega)
        have hkl : k < s.tail.length := by omega
        have hrk := hrd.rangeB hb hkn
        have HS : Hid (((s.tail.getD k .z0).c == (cn : Int) && (s.tail.getD k .z0).q == rq) = false → R = knwT (s.tail.drop (k + 1)) s.com cn rq ⟨dxc, dxq, dxv⟩) := fun e => by rw [HK.out, knwT_skip hkl e]
        have HH : Hid (((s.tail.getD k .z0).c == (cn : Int) && (s.tail.getD k .z0).q == rq) = true → R = ((s.tail.getD k .z0).v, decide ((s.tail.getD k .z0).ix ≤ s.com))) := fun e => by rw [HK.out, knwT_hit hkl e]
        clear HK hkl
        have hrk' : wr.rangeAt bb (o + k * 14) [.int .i64 (s.tail.getD k .z0).ix, .int .i64 (s.tail.getD k .z0).ep, .int .u8 (bt (s.tail.getD k .z0).k 0), .int .u8 (bt (s.tail.getD k .z0).k 1), .int .u8 (bt (s.tail.getD k .z0).k 2), .int .u8 (bt (s.tail.getD k .z0).k 3), .int .u8 (bt (s.tail.getD k .z0).k 4), .int .u8 (bt (s.tail.getD k .z0).k 5), .int .u8 (bt (s.tail.getD k .z0).k 6), .int .u8 (bt (s.tail.getD k .z0).k 7), .int .i64 (s.tail.getD k .z0).v, .string (s.tail.getD k .z0).s, .int .i64 (s.tail.getD k .z0).c, .int .i64 (s.tail.getD k .z0).q] := hrk
        clear hrk
        generalize s.tail.getD k .z0 = x at *
        obtain ⟨xi, xe, xk, xv, xs, xc, xq⟩ := x
        dsimp only at HS HH hrk'
        have hX0 := At.new 64 wr #[.int .i64 0, .int .i64 0, .int .u8 0, .int .u8 0, .int .u8 0, .int .u8 0, .int .u8 0, .int .u8 0, .int .u8 0, .int .u8 0, .int .i64 0, .string ⟨#[]⟩, .int .i64 0, .int .i64 0]
        have hXr := hX0.row #[.int .i64 (Rc.mk xi xe xk xv xs xc xq).ix, .int .i64 (Rc.mk xi xe xk xv xs xc xq).ep, .int .u8 (bt (Rc.mk xi xe xk xv xs xc xq).k 0), .int .u8 (bt (Rc.mk xi xe xk xv xs xc xq).k 1), .int .u8 (bt (Rc.mk xi xe xk xv xs xc xq).k 2), .int .u8 (bt (Rc.mk xi xe xk xv xs xc xq).k 3), .int .u8 (bt (Rc.mk xi xe xk xv xs xc xq).k 4), .int .u8 (bt (Rc.mk xi xe xk xv xs xc xq).k 5), .int .u8 (bt (Rc.mk xi xe xk xv xs xc xq).k 6), .int .u8 (bt (Rc.mk xi xe xk xv xs xc xq).k 7), .int .i64 (Rc.mk xi xe xk xv xs xc xq).v, .string (Rc.mk xi xe xk xv xs xc xq).s, .int .i64 (Rc.mk xi xe xk xv xs xc xq).c, .int .i64 (Rc.mk xi xe xk xv xs xc xq).q]
        have hba : Below wr.heap.size wr ((wr.alloc (.cells #[.int .i64 0, .int .i64 0, .int .u8 0, .int .u8 0, .int .u8 0, .int .u8 0, .int .u8 0, .int .u8 0, .int .u8 0, .int .u8 0, .int .i64 0, .string ⟨#[]⟩, .int .i64 0, .int .i64 0] 64)).setRow wr.heap.size #[.int .i64 (Rc.mk xi xe xk xv xs xc xq).ix, .int .i64 (Rc.mk xi xe xk xv xs xc xq).ep, .int .u8 (bt (Rc.mk xi xe xk xv xs xc xq).k 0), .int .u8 (bt (Rc.mk xi xe xk xv xs xc xq).k 1), .int .u8 (bt (Rc.mk xi xe xk xv xs xc xq).k 2), .int .u8 (bt (Rc.mk xi xe xk xv xs xc xq).k 3), .int .u8 (bt (Rc.mk xi xe xk xv xs xc xq).k 4), .int .u8 (bt (Rc.mk xi xe xk xv xs xc xq).k 5), .int .u8 (bt (Rc.mk xi xe xk xv xs xc xq).k 6), .int .u8 (bt (Rc.mk xi xe xk xv xs xc xq).k 7), .int .i64 (Rc.mk xi xe xk xv xs xc xq).v, .string (Rc.mk xi xe xk xv xs xc xq).s, .int .i64 (Rc.mk xi xe xk xv xs xc xq).c, .int .i64 (Rc.mk xi xe xk xv xs xc xq).q]) := (below_alloc' wr (.cells #[.int .i64 0, .int .i64 0, .int .u8 0, .int .u8 0, .int .u8 0, .int .u8 0, .int .u8 0, .int .u8 0, .int .u8 0, .int .u8 0, .int .i64 0, .string ⟨#[]⟩, .int .i64 0, .int .i64 0] 64)).trans (below_setRow _ _ _ (Nat.le_refl _))
        have hXq := (hX.below hb).below hba
        have q0 := At.cell hXq 0
        have q1 := At.cell hXq 1
        obtain ⟨y0, _, _, _, _, _, _, _, _, _, y10, _, y12, y13⟩ := rec_box hXr
        simp only [List.getElem?_toArray, List.getElem?_cons_zero, List.getElem?_cons_succ] at q0 q1
        dsimp only at y0 y10 y12 y13
        have hE := fun W => eql_req xc xq cn rq W
        have hb2 := hb.trans (hba.mono hb.size)
        have zz := (hSh.below hb2).cells.2.2
        generalize (xc == (cn : Int) && xq == rq) = t at *
        cases t with
        | false =>
          have HKh : Hid (R = knwT (s.tail.drop (k + 1)) s.com cn rq ⟨dxc, dxq, dxv⟩) := HS.out rfl
          clear HS HH y0 y10 hXr zz hba hXq
          go_wp2_with (first | refine wpList_load_mid rfl 64 _ rfl bb (o + k * 14) rfl _ _ hrk' Tryd.underlying64 rfl infoRc ?_ | refine wpList_store_row rfl 64 _ _ rfl wr.heap.size #[.int .i64 (Rc.mk xi xe xk xv xs xc xq).ix, .int .i64 (Rc.mk xi xe xk xv xs xc xq).ep, .int .u8 (bt (Rc.mk xi xe xk xv xs xc xq).k 0), .int .u8 (bt (Rc.mk xi xe xk xv xs xc xq).k 1), .int .u8 (bt (Rc.mk xi xe xk xv xs xc xq).k 2), .int .u8 (bt (Rc.mk xi xe xk xv xs xc xq).k 3), .int .u8 (bt (Rc.mk xi xe xk xv xs xc xq).k 4), .int .u8 (bt (Rc.mk xi xe xk xv xs xc xq).k 5), .int .u8 (bt (Rc.mk xi xe xk xv xs xc xq).k 6), .int .u8 (bt (Rc.mk xi xe xk xv xs xc xq).k 7), .int .i64 (Rc.mk xi xe xk xv xs xc xq).v, .string (Rc.mk xi xe xk xv xs xc xq).s, .int .i64 (Rc.mk xi xe xk xv xs xc xq).c, .int .i64 (Rc.mk xi xe xk xv xs xc xq).q] rfl rfl _ _ hX0 infoRc rfl (by simp [Value.oneCell']) ?_)
          exact ⟨⟨k + 1, by omega, by go_num, hb2, HKh⟩, by simp [intOf]; omega⟩
        | true =>
          have HKh : Hid (R = (xv, decide (xi ≤ s.com))) := HH.out rfl
          have Y0 : Hid (_ ∧ _ ∧ _) := ⟨y0, y10, zz⟩
          clear HS HH hXr hba hXq y0 y10 zz
          go_wp2_with (first | refine wpList_load_mid rfl 64 _ rfl bb (o + k * 14) rfl _ _ hrk' Tryd.underlying64 rfl infoRc ?_ | refine wpList_store_row rfl 64 _ _ rfl wr.heap.size #[.int .i64 (Rc.mk xi xe xk xv xs xc xq).ix, .int .i64 (Rc.mk xi xe xk xv xs xc xq).ep, .int .u8 (bt (Rc.mk xi xe xk xv xs xc xq).k 0), .int .u8 (bt (Rc.mk xi xe xk xv xs xc xq).k 1), .int .u8 (bt (Rc.mk xi xe xk xv xs xc xq).k 2), .int .u8 (bt (Rc.mk xi xe xk xv xs xc xq).k 3), .int .u8 (bt (Rc.mk xi xe xk xv xs xc xq).k 4), .int .u8 (bt (Rc.mk xi xe xk xv xs xc xq).k 5), .int .u8 (bt (Rc.mk xi xe xk xv xs xc xq).k 6), .int .u8 (bt (Rc.mk xi xe xk xv xs xc xq).k 7), .int .i64 (Rc.mk xi xe xk xv xs xc xq).v, .string (Rc.mk xi xe xk xv xs xc xq).s, .int .i64 (Rc.mk xi xe xk xv xs xc xq).c, .int .i64 (Rc.mk xi xe xk xv xs xc xq).q] rfl rfl _ _ hX0 infoRc rfl (by simp [Value.oneCell']) ?_)
          clear y12 y13 q0 q1 hE hX0 hrk'
          generalize ((wr.alloc (.cells #[.int .i64 0, .int .i64 0, .int .u8 0, .int .u8 0, .int .u8 0, .int .u8 0, .int .u8 0, .int .u8 0, .int .u8 0, .int .u8 0, .int .i64 0, .string ⟨#[]⟩, .int .i64 0, .int .i64 0] 64)).setRow wr.heap.size #[.int .i64 (Rc.mk xi xe xk xv xs xc xq).ix, .int .i64 (Rc.mk xi xe xk xv xs xc xq).ep, .int .u8 (bt (Rc.mk xi xe xk xv xs xc xq).k 0), .int .u8 (bt (Rc.mk xi xe xk xv xs xc xq).k 1), .int .u8 (bt (Rc.mk xi xe xk xv xs xc xq).k 2), .int .u8 (bt (Rc.mk xi xe xk xv xs xc xq).k 3), .int .u8 (bt (Rc.mk xi xe xk xv xs xc xq).k 4), .int .u8 (bt (Rc.mk xi xe xk xv xs xc xq).k 5), .int .u8 (bt (Rc.mk xi xe xk xv xs xc xq).k 6), .int .u8 (bt (Rc.mk xi xe xk xv xs xc xq).k 7), .int .i64 (Rc.mk xi xe xk xv xs xc xq).v, .string (Rc.mk xi xe xk xv xs xc xq).s, .int .i64 (Rc.mk xi xe xk xv xs xc xq).c, .int .i64 (Rc.mk xi xe xk xv xs xc xq).q]) = wx at *
          go_wp2_with fail
          obtain ⟨y0, y10, zz⟩ := Y0.out
          have k0 := cell_regrown y0
          have k1 := cell_regrown y10
          have k2 := cell_regrown zz
          refine wp_region_quiet_below (by kernel_rfl) (by kernel_rfl) ?_
          repeat (with_reducible refine wpQuiet_step (fun K hK => ?_); go_simp; first | (with_reducible refine hK _ ?_; clear hK K) | (rw [if_neg (by decide)]; with_reducible refine hK _ ?_; clear hK K))
          with_reducible refine wpQuiet_nil ?_
          intro _ hw'
          obtain ⟨⟨dq, osq⟩, hw''⟩ := hw'
          subst hw''
          have hb4 := (HB.trans (hb2.mono HB.size))
          have hb5 := hb4.trans ((below_regrown wx dq osq).mono hb4.size)
          clear k0 k1 k2 y0 y10 zz hb2 hb4 Y0
          go_wp2_with fail
          rw [HKh.out]
          exact bodyPost_ret (v := .tuple #[.int .i64 xv, .bool (decide (xi ≤ s.com))]) (by simp [results, Tryd.results20, go_sem]) rfl ⟨rfl, hb5⟩
      · as_aux_lemma =>
        have hki : ¬ (k : Int) < (n : Int) := by omega
        have HE : Hid (R = if dxq = rq then (dxv, true) else (0, false)) := by
          unfold Hid
          rw [HK.out, knwT_end (by omega)]
        clear HK hrd
        have hS0 : Bl wr wr.drew := (Below.refl _ _).drew
        go_wp2_with fail
        refine wp_region_det [0, 1, 2, 3, 4, 5, 6, 7] (Bl wr) (Bl wr) (by kernel_rfl) hS0 ?_
        refine wpDet_take ?vW0 (Bl.stays wr) (fun _ h => h) (i := 0) rfl (by kernel_rfl) (by kernel_rfl) (by kernel_rfl) (by kernel_rfl) (fun _ _ _ h => h) (Gives.value (by rfl) ?yW0) ?rW0
        case yW0 => (intro w' hSw; (try dsimp only at hSw); go_simp; try with_reducible rfl)
        (try simp only [Act.put, List.getElem_toArray, List.getElem_cons_zero, List.getElem_cons_succ, List.setIfInBounds_toArray, List.set_cons_zero, List.set_cons_succ])
        refine wpDet_take ?vW1 (Bl.stays wr) (fun _ h => h) (i := 1) rfl (by kernel_rfl) (by kernel_rfl) (by kernel_rfl) (by kernel_rfl) (fun _ _ _ h => h) (Gives.value (by rfl) ?yW1) ?rW1
        case yW1 => (intro w' hSw; (try dsimp only at hSw); go_simp; try with_reducible rfl)
        (try simp only [Act.put, List.getElem_toArray, List.getElem_cons_zero, List.getElem_cons_succ, List.setIfInBounds_toArray, List.set_cons_zero, List.set_cons_succ])
        refine wpDet_take ?vW2 (Bl.stays wr) (fun _ h => h) (i := 2) rfl (by kernel_rfl) (by kernel_rfl) (by kernel_rfl) (by kernel_rfl) (fun _ _ _ h => h) (Gives.value (by rfl) ?yW2) ?rW2
        case yW2 => (intro w' hSw; have x0 := At.cell (At.below (At.below hX hb) (Bl.out hSw)) 0; have x1 := At.cell (At.below (At.below hX hb) (Bl.out hSw)) 1; simp only [List.getElem?_toArray, List.getElem?_cons_zero, List.getElem?_cons_succ] at x0 x1; (try dsimp only at hSw); go_simp; try with_reducible rfl)
        (try simp only [Act.put, List.getElem_toArray, List.getElem_cons_zero, List.getElem_cons_succ, List.setIfInBounds_toArray, List.set_cons_zero, List.set_cons_succ])
        refine wpDet_take ?vW3 (Bl.stays wr) (fun _ h => h) (i := 3) rfl (by kernel_rfl) (by kernel_rfl) (by kernel_rfl) (by kernel_rfl) (fun _ _ _ h => h) (Gives.value (by rfl) ?yW3) ?rW3
        case yW3 => (intro w' hSw; obtain ⟨⟨zz0, zz1, zz2, zz3, zz4, zz5, zz6, zz7, zz8, zz9, zz10, zz11, zz12, zz13, zz14⟩, zz15, zz16⟩ := ((hSh.below hb).below (show Below wr.heap.size wr w' from hSw)).cells; (try dsimp only at hSw); go_simp; try with_reducible rfl)
        (try simp only [Act.put, List.getElem_toArray, List.getElem_cons_zero, List.getElem_cons_succ, List.setIfInBounds_toArray, List.set_cons_zero, List.set_cons_succ])
        refine wpDet_take ?vW4 (Bl.stays wr) (fun _ h => h) (i := 4) rfl (by kernel_rfl) (by kernel_rfl) (by kernel_rfl) (by kernel_rfl) (fun _ _ _ h => h) (Gives.value (by rfl) ?yW4) ?rW4
        case yW4 => (intro w' hSw; obtain ⟨⟨zz0, zz1, zz2, zz3, zz4, zz5, zz6, zz7, zz8, zz9, zz10, zz11, zz12, zz13, zz14⟩, zz15, zz16⟩ := ((hSh.below hb).below (show Below wr.heap.size wr w' from hSw)).cells; (try dsimp only at hSw); go_simp; try with_reducible rfl)
        (try simp only [Act.put, List.getElem_toArray, List.getElem_cons_zero, List.getElem_cons_succ, List.setIfInBounds_toArray, List.set_cons_zero, List.set_cons_succ])
        refine wpDet_take ?vW5 (Bl.stays wr) (fun _ h => h) (i := 5) rfl (by kernel_rfl) (by kernel_rfl) (by kernel_rfl) (by kernel_rfl) (fun _ _ _ h => h) (Gives.value (by rfl) ?yW5) ?rW5
        case yW5 => (intro w' hSw; obtain ⟨⟨zz0, zz1, zz2, zz3, zz4, zz5, zz6, zz7, zz8, zz9, zz10, zz11, zz12, zz13, zz14⟩, zz15, zz16⟩ := ((hSh.below hb).below (show Below wr.heap.size wr w' from hSw)).cells; (try dsimp only at hSw); go_simp; try with_reducible rfl)
        (try simp only [Act.put, List.getElem_toArray, List.getElem_cons_zero, List.getElem_cons_succ, List.setIfInBounds_toArray, List.set_cons_zero, List.set_cons_succ])
        refine wpDet_take ?vW6 (Bl.stays wr) (fun _ h => h) (i := 6) rfl (by kernel_rfl) (by kernel_rfl) (by kernel_rfl) (by kernel_rfl) (fun _ _ _ h => h) (Gives.value (by rfl) ?yW6) ?rW6
        case yW6 => (intro w' hSw; obtain ⟨⟨zz0, zz1, zz2, zz3, zz4, zz5, zz6, zz7, zz8, zz9, zz10, zz11, zz12, zz13, zz14⟩, zz15, zz16⟩ := ((hSh.below hb).below (show Below wr.heap.size wr w' from hSw)).cells; (try dsimp only at hSw); go_simp; try with_reducible rfl)
        (try simp only [Act.put, List.getElem_toArray, List.getElem_cons_zero, List.getElem_cons_succ, List.setIfInBounds_toArray, List.set_cons_zero, List.set_cons_succ])
        refine wpDet_take ?vW7 (Bl.stays wr) (fun _ h => h) (i := 7) rfl (by kernel_rfl) (by kernel_rfl) (by kernel_rfl) (by kernel_rfl) (fun _ _ _ h => h) (Gives.value (by rfl) ?yW7) ?rW7
        case yW7 => (intro w' hSw; obtain ⟨y0, y1, y2⟩ := hdc w' (hb.trans ((show Below wr.heap.size wr w' from hSw).mono hb.size)); (try dsimp only at hSw); go_simp; try with_reducible rfl)
        (try simp only [Act.put, List.getElem_toArray, List.getElem_cons_zero, List.getElem_cons_succ, List.setIfInBounds_toArray, List.set_cons_zero, List.set_cons_succ])
        refine wpDet_ready (rs := [8]) (by kernel_rfl) (by simp) (AllDet.cons rfl (fun V hV K hK => ?_) AllDet.nil)
        rw [if_pos (by rfl)]
        refine wp_value (.pointer (some ⟨V.heap.size, 0, none⟩)) (V.alloc (.cells #[.int .i64 0, .int .i64 0, .int .i64 0] 82)) (by first | (go_simp; done) | (go_simp; rfl)) ?_
        have hz7 : NBG wr 82 V.heap.size #[.int .i64 0, .int .i64 0, .int .i64 0] (V.alloc (.cells #[.int .i64 0, .int .i64 0, .int .i64 0] 82)) := ⟨Bl.stays wr V _ hV (below_alloc' _ _), At.new _ _ _, (Bl.out hV).size⟩
        refine hK.out (NBG wr 82 V.heap.size #[.int .i64 0, .int .i64 0, .int .i64 0]) _ _ (NBG.stays _ _ _ _) (fun _ _ h => h.bl) hz7 ?_
        clear hK hz7
        obtain ⟨gr, hgr⟩ : ∃ gr, gr = V.heap.size := ⟨_, rfl⟩
        rw [← hgr]
        clear hV hgr
        (try simp only [Act.put, List.getElem_toArray, List.getElem_cons_zero, List.getElem_cons_succ, List.setIfInBounds_toArray, List.set_cons_zero, List.set_cons_succ])
        refine wpDet_ready (rs := [9]) (by kernel_rfl) (by simp) (AllDet.cons rfl (fun V hV K hK => ?_) AllDet.nil)
        rw [if_pos (by rfl)]
        refine wp_store_row 82 _ _ rfl gr #[.int .i64 dxc, .int .i64 dxq, .int .i64 dxv] rfl rfl _ _ hV.ce infoDn rfl (by simp [Value.oneCell']) ?_
        have hz9 : NBG wr 82 gr #[.int .i64 dxc, .int .i64 dxq, .int .i64 dxv] (V.setRow gr #[.int .i64 dxc, .int .i64 dxq, .int .i64 dxv]) := ⟨(Bl.out hV.bl).trans (below_setRow V gr _ hV.new), hV.ce.row _, hV.new⟩
        refine hK.out (NBG wr 82 gr #[.int .i64 dxc, .int .i64 dxq, .int .i64 dxv]) _ _ (NBG.stays _ _ _ _) (fun _ _ h => h.bl) hz9 ?_
        clear hK K hV hz9
        (try simp only [Act.put, List.getElem_toArray, List.getElem_cons_zero, List.getElem_cons_succ, List.setIfInBounds_toArray, List.set_cons_zero, List.set_cons_succ])
        refine wpDet_done (by kernel_rfl) (fun W9 hV => ?_) _
        have hA := hV.ce
        have hB9 := HB.trans ((hb.trans ((Bl.out hV.bl).mono hb.size)).mono HB.size)
        have x1 := At.cell ((hX.below hb).below (Bl.out hV.bl)) 1
        have y1 := At.cell hA 1
        have y2 := At.cell hA 2
        simp only [List.getElem?_toArray, List.getElem?_cons_zero, List.getElem?_cons_succ] at x1 y1 y2
        clear hV hA hX hSh hb hdc
        by_cases hq : dxq = rq
        · have hqd : (dxq == rq) = true := by simpa using hq
          rw [if_pos hq] at HE
          go_wp2_with fail
          rw [HE.out]
          exact bodyPost_ret (v := .tuple #[.int .i64 dxv, .bool true]) (by simp [results, Tryd.results20, go_sem]) rfl ⟨rfl, hB9⟩
        · have hqd : (dxq == rq) = false := by simpa using hq
          rw [if_neg hq] at HE
          go_wp2_with fail
          rw [HE.out]
          exact bodyPost_ret (v := .tuple #[.int .i64 0, .bool false]) (by simp [results, Tryd.results20, go_sem]) rfl ⟨rfl, hB9⟩

end Go.Proofs.YtnbgdkdnlfomeaaDoor.M

namespace Go.Proofs.YtnbgdkdnlfomeaaDoor.M
open Go.ChangeShapes Go.WideShapes Go.ChangeAt Go.RowKit Go.ChangeMaps Go.MapKept Go.Maps Go.Shelf Go.Proofs
set_option linter.unusedSimpArgs false

/-- Each record may stand behind those ahead of it. -/
def okT : Sm → List Rc → Prop
  | _, [] => True
  | m, x :: l => m.stands x = 0 ∧ okT (m.add x) l

theorem okT_cons {m : Sm} {x : Rc} {l : List Rc} : okT m (x :: l) ↔ (m.stands x = 0 ∧ okT (m.add x) l) := Iff.rfl

theorem adds_cons (m : Sm) (x : Rc) (l : List Rc) : m.adds (x :: l) = (m.add x).adds l := rfl

theorem okT_app {a b : List Rc} : ∀ {m : Sm}, okT m (a ++ b) ↔ (okT m a ∧ okT (m.adds a) b) := by
  induction a with
  | nil => intro m; exact ⟨fun h => ⟨trivial, h⟩, fun h => h.2⟩
  | cons x a ih => intro m; rw [List.cons_append, okT_cons, okT_cons, ih, adds_cons, and_assoc]

/-- A good shelf. -/
structure Sh.gd (s : Sh) : Prop where
  kn : s.kn
  ok : okT s.low s.tail

theorem addE_ok {s : Sh} {x : Rc} (h : s.addE x = 0) : (s.low.adds s.tail).stands x = 0 ∧ s.tail.length < 24 := by
  unfold Sh.addE at h
  split at h
  · rename_i hne; exact absurd h hne
  · rename_i hne
    refine ⟨Classical.byContradiction hne, ?_⟩
    split at h
    · cases h
    · omega

theorem addE_of {s : Sh} {x : Rc} (h : (s.low.adds s.tail).stands x = 0) (hl : s.tail.length < 24) : s.addE x = 0 ∧ s.addS x = ⟨s.low, s.tail ++ [x], s.com⟩ := by
  have h1 : s.addE x = 0 := by
    unfold Sh.addE
    rw [if_neg (fun e => e h), if_neg (by omega)]
  exact ⟨h1, by unfold Sh.addS; rw [if_pos h1]⟩

theorem addE_full {s : Sh} {x : Rc} (h : (s.low.adds s.tail).stands x = 0) (hl : 24 ≤ s.tail.length) : s.addE x = 7 ∧ s.addS x = s := by
  have h1 : s.addE x = 7 := by
    unfold Sh.addE
    rw [if_neg (fun e => e h), if_pos hl]
  exact ⟨h1, by unfold Sh.addS; rw [if_neg (by rw [h1]; decide)]⟩

theorem Sh.gd.add {s : Sh} (h : s.gd) (x : Rc) : (s.addS x).gd := by
  refine ⟨h.kn.add x, ?_⟩
  by_cases he : s.addE x = 0
  · obtain ⟨h1, h2⟩ := addE_ok he
    rw [(addE_of h1 h2).2]
    exact okT_app.2 ⟨h.ok, ⟨h1, trivial⟩⟩
  · unfold Sh.addS
    rw [if_neg he]
    exact h.ok

theorem Sh.gd.cut {s : Sh} (h : s.gd) (i : Int) : (s.cutS i).gd := by
  refine ⟨h.kn.cut i, ?_⟩
  unfold Sh.cutS
  split
  · have h1 := h.ok
    rw [← List.take_append_drop (i - s.low.ix).toNat s.tail] at h1
    exact (okT_app.1 h1).1
  · exact h.ok

theorem Sh.gd.set {s : Sh} (h : s.gd) (i : Int) : (s.setS i).gd := by
  refine ⟨h.kn.set i, ?_⟩
  unfold Sh.setS
  split
  · exact h.ok
  · exact h.ok

theorem Sh.gd.fold {s : Sh} (h : s.gd) (i : Int) : (s.foldS i).gd := by
  refine ⟨h.kn.fold i, ?_⟩
  unfold Sh.foldS
  split
  · have h1 := h.ok
    rw [← List.take_append_drop (i - s.low.ix).toNat s.tail] at h1
    exact (okT_app.1 h1).2
  · exact h.ok

theorem Sh.gd.does {s : Sh} (h : s.gd) (d : Dv) : ((s.doR d).2.2).gd := by
  unfold Sh.doR
  repeat (split; first | exact h.add _ | exact h.cut _ | exact h.set _ | exact h.fold _ | skip)
  all_goals first | exact h.add _ | exact h

theorem Sh.gd.runs {s : Sh} (h : s.gd) (l : List Dv) : (s.runs l).gd := by
  unfold Sh.runs
  induction l generalizing s with
  | nil => exact h
  | cons d l ih => exact ih (h.does d)

theorem frS_gd {ix ep : Int} {C : List Ce} {D : List Dn} (h : chkE ix ep C D = 0) : (frS ix ep C D).gd := ⟨frS_kn h, trivial⟩

theorem add_d {m : Sm} {x : Rc} (hs : m.stands x = 0) (i : Nat) : (m.d i).q ≤ ((m.add x).d i).q := by
  have h7 := (stands_ok hs).2.2.2.2.2.2.1
  show (m.d i).q ≤ (if (i : Int) = x.c then (⟨x.c, x.q, x.v⟩ : Dn) else m.d i).q
  by_cases hi : (i : Int) = x.c
  · rw [if_pos hi]
    rw [← hi, Int.toNat_natCast] at h7
    exact Int.le_of_lt h7
  · rw [if_neg hi]; exact Int.le_refl _

theorem adds_d (i : Nat) {l : List Rc} : ∀ {m : Sm}, okT m l → (m.d i).q ≤ ((m.adds l).d i).q := by
  induction l with
  | nil => intro m _; exact Int.le_refl _
  | cons x l ih =>
    intro m h
    rw [okT_cons] at h
    exact Int.le_trans (add_d h.1 i) (ih h.2)

theorem adds_q {y : Rc} {l : List Rc} (hr : okR y) (hy : y ∈ l) : ∀ {m : Sm}, okT m l → y.q ≤ ((m.adds l).d y.c.toNat).q := by
  induction l with
  | nil => cases hy
  | cons x l ih =>
    intro m h
    rw [okT_cons] at h
    rw [adds_cons]
    rcases List.mem_cons.1 hy with rfl | hy
    · refine Int.le_trans ?_ (adds_d _ h.2)
      show y.q ≤ (if ((y.c.toNat : Nat) : Int) = y.c then (⟨y.c, y.q, y.v⟩ : Dn) else m.d y.c.toNat).q
      rw [if_pos (by have := hr.2.1; omega)]
      exact Int.le_refl _
    · exact ih hy h.2

/-- A record that may stand behind others has a request that none of them has. -/
theorem stands_new {m : Sm} {l : List Rc} {x : Rc} (h : okT m l) (hr : ∀ y ∈ l, okR y) (hs : (m.adds l).stands x = 0) : l.find? (fun y => y.c == x.c && y.q == x.q) = none ∧ (m.d x.c.toNat).q < x.q := by
  have h7 := (stands_ok hs).2.2.2.2.2.2.1
  refine ⟨List.find?_eq_none.2 fun y hy e => ?_, ?_⟩
  · simp only [Bool.and_eq_true, beq_iff_eq] at e
    have h1 := adds_q (hr y hy) hy h
    rw [e.1] at h1
    omega
  · have := adds_d x.c.toNat h
    omega

theorem knw_new {m : Sm} {l : List Rc} {x : Rc} {com : Int} (h : okT m l) (hr : ∀ y ∈ l, okR y) (hs : (m.adds l).stands x = 0) : knwT l com x.c x.q (m.d x.c.toNat) = (0, false) := by
  obtain ⟨h1, h2⟩ := stands_new h hr hs
  unfold knwT
  rw [h1]
  show (if (m.d x.c.toNat).q = x.q then ((m.d x.c.toNat).v, true) else (0, false)) = (0, false)
  rw [if_neg (by omega)]

theorem find_app {p : Rc → Bool} {a b : List Rc} (h : a.find? p = none) : (a ++ b).find? p = b.find? p := by
  rw [List.find?_append, h]
  rfl

theorem knw_last {m : Sm} {l : List Rc} {x : Rc} {com : Int} (h : okT m l) (hr : ∀ y ∈ l, okR y) (hs : (m.adds l).stands x = 0) (d : Dn) : knwT (l ++ [x]) com x.c x.q d = (x.v, decide (x.ix ≤ com)) := by
  unfold knwT
  rw [find_app (stands_new h hr hs).1, List.find?_cons_of_pos (by simp)]

theorem lookC_put : ∀ (l : List Ce) (c : Ce), lookC (putC l c) c.k = some c
  | [], c => by unfold putC lookC; rw [if_pos rfl]
  | x :: l, c => by
    unfold putC
    split
    · unfold lookC; rw [if_pos rfl]
    · rename_i h
      unfold lookC
      rw [if_neg h]
      exact lookC_put l c

theorem addX {own : Nat → Nat} {i : Nat} {V : World} {g : Nat} {s : Sh} (h : SX own i V g s) (x : Rc) (hk : x.k < 18446744073709551616) (hxs : x.s.size ≤ 9223372036854775807) (hT : Tabs V) :
    Calls Tryd.prog 37 #[.pointer (some ⟨g, 0, none⟩), .agg #[.int .i64 x.ix, .int .i64 x.ep, .int .u8 (bt x.k 0), .int .u8 (bt x.k 1), .int .u8 (bt x.k 2), .int .u8 (bt x.k 3), .int .u8 (bt x.k 4), .int .u8 (bt x.k 5), .int .u8 (bt x.k 6), .int .u8 (bt x.k 7), .int .i64 x.v, .string x.s, .int .i64 x.c, .int .i64 x.q]] V fun e W => e = .returned (.int .i64 (s.addE x)) ∧ Stp own i V W ∧ SX (mkO own V W i) i W g (s.addS x) := by
  obtain ⟨b, q, n, c, h⟩ := h
  refine (add_any h.sh x hk hxs hT).mono ?_
  rintro e W ⟨rfl, p', n', c', hG⟩
  exact ⟨rfl, h.step hG (Or.inl rfl)⟩

theorem nextX {own : Nat → Nat} {i : Nat} {V : World} {g : Nat} {s : Sh} (h : SX own i V g s) (ep : Int) (k : Nat) (hk : k < 18446744073709551616) (vs : ByteArray) (hvs : vs.size ≤ 9223372036854775807) (c q : Int) (hT : Tabs V) :
    Calls Tryd.prog 40 #[.pointer (some ⟨g, 0, none⟩), .int .i64 ep, .agg #[.int .u8 (bt (k) 0), .int .u8 (bt (k) 1), .int .u8 (bt (k) 2), .int .u8 (bt (k) 3), .int .u8 (bt (k) 4), .int .u8 (bt (k) 5), .int .u8 (bt (k) 6), .int .u8 (bt (k) 7)], .string vs, .agg #[.int .i64 c, .int .i64 q]] V fun e w' => e = .returned (.tuple #[.agg #[.int .i64 (s.nextR (s.nx ep k vs c q)).ix, .int .i64 (s.nextR (s.nx ep k vs c q)).ep, .int .u8 (bt (s.nextR (s.nx ep k vs c q)).k 0), .int .u8 (bt (s.nextR (s.nx ep k vs c q)).k 1), .int .u8 (bt (s.nextR (s.nx ep k vs c q)).k 2), .int .u8 (bt (s.nextR (s.nx ep k vs c q)).k 3), .int .u8 (bt (s.nextR (s.nx ep k vs c q)).k 4), .int .u8 (bt (s.nextR (s.nx ep k vs c q)).k 5), .int .u8 (bt (s.nextR (s.nx ep k vs c q)).k 6), .int .u8 (bt (s.nextR (s.nx ep k vs c q)).k 7), .int .i64 (s.nextR (s.nx ep k vs c q)).v, .string (s.nextR (s.nx ep k vs c q)).s, .int .i64 (s.nextR (s.nx ep k vs c q)).c, .int .i64 (s.nextR (s.nx ep k vs c q)).q], .int .i64 (s.nextE (s.nx ep k vs c q))]) ∧ Below V.heap.size V w' := by
  obtain ⟨b, p, n, cp, h⟩ := h
  exact next_any h.sh ep k hk vs hvs c q hT

theorem knownX {own : Nat → Nat} {i : Nat} {V : World} {g : Nat} {s : Sh} (h : SX own i V g s) (rc rq : Int) :
    Calls Tryd.prog 20 #[.pointer (some ⟨g, 0, none⟩), .agg #[.int .i64 rc, .int .i64 rq]] V fun e w' => e = .returned (.tuple #[.int .i64 (s.knw rc rq).1, .bool (s.knw rc rq).2]) ∧ Below V.heap.size V w' := by
  obtain ⟨b, p, n, cp, h⟩ := h
  exact known_any h.sh rc rq

end Go.Proofs.YtnbgdkdnlfomeaaDoor.M

namespace Go.Proofs.YtnbgdkdnlfomeaaDoor.M
open Go.ChangeShapes Go.WideShapes Go.ChangeAt Go.RowKit Go.ChangeMaps Go.MapKept Go.Maps Go.Shelf Go.Proofs
set_option linter.unusedSimpArgs false

theorem OwG.other {T : Type} {S : Shp T} {own : Nat → Nat} {i : Nat} {V W : World} {e : TypeId} {B : Nat} {p : Option Addr} {n c : Nat} {fs : List T} (h : OwG S e V B p n c fs) (hm : ∀ k, mine p c k → own k = 0) (hc : Stp own i V W) (hi : i ≠ 0) : OwG S e W B p n c fs ∧ ∀ k, mine p c k → mkO own V W i k = 0 :=
  ⟨h.ch hc fun k hk => by rw [hm k hk]; exact fun e => hi e.symm, fun k hk => by rw [mkO_old (h.lt hk).2]; exact hm k hk⟩

theorem right_size {k : Nat} {s : ByteArray} (h : rightK k s = 0) : s.size ≤ 9223372036854775807 := by
  unfold rightK at h
  split at h
  · split at h
    · rename_i h2
      unfold isTx at h2
      simp only [Bool.and_eq_true, decide_eq_true_eq] at h2
      omega
    · cases h
  · cases h

theorem okT_at {m : Sm} {l : List Rc} {j : Nat} (h : okT m l) (hj : j < l.length) : (m.adds (l.take j)).stands (l.getD j .z0) = 0 := by
  rw [← List.take_append_drop j l, okT_app] at h
  rw [List.drop_eq_getElem_cons hj, okT_cons] at h
  rw [List.getD_eq_getElem?_getD, List.getElem?_eq_getElem hj]
  exact h.2.1

theorem take_next {l : List Rc} {j : Nat} (hj : j < l.length) : l.take (j + 1) = l.take j ++ [l.getD j .z0] := by
  rw [List.getD_eq_getElem?_getD, List.getElem?_eq_getElem hj, List.take_add_one, List.getElem?_eq_getElem hj]
  rfl

/-- Where a shelf may be asked: k records behind its table. -/
theorem beh_from {s : Sh} (h : s.inv) {k : Nat} (hk : k ≤ s.tail.length) : s.isAt (s.low.ix + (k : Nat)) ∧ s.beh (s.low.ix + (k : Nat)) 99 = s.tail.drop k := by
  have h1 := h.few
  refine ⟨⟨by omega, by unfold Sh.last; omega⟩, ?_⟩
  unfold Sh.beh
  rw [show (s.low.ix + (k : Nat) - s.low.ix).toNat = k by omega]
  exact List.take_of_length_le (by rw [List.length_drop]; show s.tail.length - k ≤ 99; omega)

theorem behY {own : Nat → Nat} {i : Nat} {V : World} {g : Nat} {s : Sh} (h : SX own i V g s) {k : Nat} (hk : k ≤ s.tail.length) {x : Int} (hx : x = s.low.ix + (k : Nat)) :
    Calls Tryd.prog 16 #[.pointer (some ⟨g, 0, none⟩), .int .i64 x, .int .i64 99] V fun e W => ∃ p c, e = .returned (.tuple #[.slice p (s.tail.length - k) c, .bool true]) ∧ OwG recS 64 W V.heap.size p (s.tail.length - k) c (s.tail.drop k) ∧ Below V.heap.size V W := by
  subst hx
  obtain ⟨b, q, n, c, h⟩ := h
  obtain ⟨h1, h2⟩ := beh_from h.sh.inv hk
  have h3 := behind_in h.sh _ 99 h1
  rw [h2, List.length_drop] at h3
  exact h3

theorem cutX {own : Nat → Nat} {i : Nat} {V : World} {g : Nat} {s : Sh} (h : SX own i V g s) (x : Int) :
    Calls Tryd.prog 36 #[.pointer (some ⟨g, 0, none⟩), .int .i64 x] V fun e W => e = .returned (.int .i64 (s.openS x)) ∧ Stp own i V W ∧ SX (mkO own V W i) i W g (s.cutS x) := by
  obtain ⟨b, q, n, c, h⟩ := h
  refine (cut_any h.sh x).mono ?_
  rintro e W ⟨rfl, n', hG⟩
  exact ⟨rfl, h.step hG (Or.inl rfl)⟩

theorem foldX {own : Nat → Nat} {i : Nat} {V : World} {g : Nat} {s : Sh} (h : SX own i V g s) (x : Int) :
    Calls Tryd.prog 31 #[.pointer (some ⟨g, 0, none⟩), .int .i64 x] V fun e W => e = .returned (.int .i64 (s.foldE x)) ∧ Stp own i V W ∧ SX (mkO own V W i) i W g (s.foldS x) := by
  obtain ⟨b, q, n, c, h⟩ := h
  refine (fold_any h.sh x).mono ?_
  rintro e W ⟨rfl, b', n', hG, hb⟩
  exact ⟨rfl, h.step hG hb⟩

theorem adds_ix {s : Sh} (h : s.inv) {k : Nat} (hk : k ≤ s.tail.length) : (s.low.adds (s.tail.take k)).ix = s.low.ix + (k : Nat) := by
  rw [(adds_end _ _).1]
  unfold endS
  rw [List.getLast?_eq_getElem?, List.length_take, Nat.min_eq_left hk]
  cases k with
  | zero => simp
  | succ k =>
    have h1 := h.ixs k (by omega)
    rw [List.getD_eq_getElem?_getD, List.getElem?_eq_getElem (by omega)] at h1
    rw [Nat.add_sub_cancel, List.getElem?_take_of_lt (by omega), List.getElem?_eq_getElem (by omega)]
    exact h1

theorem endS_app (m : Sm) (a b : List Rc) : endS (m.adds a) b = endS m (a ++ b) := by
  apply Prod.ext
  · rw [← (adds_end _ _).1, ← (adds_end _ _).1, adds_app]
  · rw [← (adds_end _ _).2, ← (adds_end _ _).2, adds_app]

/-- What is known of a record's request is so whether those ahead were folded or not. -/
theorem knw_fold {s : Sh} (hi : s.inv) (hg : okT s.low s.tail) {r j : Nat} (hj : r + j < s.tail.length) (d d2 : Dn) :
    knwT (s.tail.drop r) s.com (s.tail.getD (r + j) .z0).c (s.tail.getD (r + j) .z0).q d = knwT s.tail s.com (s.tail.getD (r + j) .z0).c (s.tail.getD (r + j) .z0).q d2 := by
  have hst := okT_at hg hj
  have hof : okT s.low (s.tail.take (r + j)) := by
    have h := hg
    rw [← List.take_append_drop (r + j) s.tail] at h
    exact (okT_app.1 h).1
  have hn := (stands_new hof (fun y hy => hi.ok y (List.mem_of_mem_take hy)) hst).1
  have hx : s.tail.getD (r + j) .z0 ∈ s.tail.drop r := by
    rw [List.getD_eq_getElem?_getD, List.getElem?_eq_getElem hj]
    exact List.mem_drop_iff_getElem.2 ⟨j, by omega, by simp [Nat.add_comm]⟩
  generalize s.tail.getD (r + j) .z0 = x at *
  have hn2 : (s.tail.take r).find? (fun y => y.c == x.c && y.q == x.q) = none := by
    rw [List.find?_eq_none] at hn ⊢
    refine fun y hy => hn y ?_
    have : s.tail.take r = (s.tail.take (r + j)).take r := by rw [List.take_take, Nat.min_eq_left (by omega)]
    rw [this] at hy
    exact List.mem_of_mem_take hy
  have hs : ((s.tail.drop r).find? (fun y => y.c == x.c && y.q == x.q)).isSome = true := by
    rw [List.find?_isSome]
    exact ⟨x, hx, by simp⟩
  obtain ⟨y, hy⟩ := Option.isSome_iff_exists.1 hs
  have hy2 : s.tail.find? (fun y => y.c == x.c && y.q == x.q) = some y := by
    rw [← List.take_append_drop r s.tail, find_app hn2, hy]
  unfold knwT
  rw [hy, hy2]

/-- An index that is told by a number: so many behind the last committed one. -/
theorem uat (n : Int) (d : Nat) (hd : d ≤ 1000) : ∃ r : Nat, r ≤ d ∧ (IntKind.u64.wrap n).tmod ((d : Int) + 1) = (r : Int) := by
  have h0 : 0 ≤ IntKind.u64.wrap n := by simp only [IntKind.wrap]; exact Int.emod_nonneg _ (by decide)
  have h1 := Int.tmod_nonneg ((d : Int) + 1) h0
  have h2 := Int.tmod_lt_of_pos (IntKind.u64.wrap n) (show (0 : Int) < (d : Int) + 1 by omega)
  exact ⟨((IntKind.u64.wrap n).tmod ((d : Int) + 1)).toNat, by omega, by omega⟩

theorem cut_ok {s : Sh} {k : Nat} (h1 : s.com ≤ s.low.ix + (k : Nat)) (h2 : k ≤ s.tail.length) : s.openS (s.low.ix + (k : Nat)) = 0 ∧ s.cutS (s.low.ix + (k : Nat)) = ⟨s.low, s.tail.take k, s.com⟩ := by
  have h3 : s.openS (s.low.ix + (k : Nat)) = 0 := by
    unfold Sh.openS Sh.last
    rw [if_neg (by omega), if_neg (by omega)]
  refine ⟨h3, ?_⟩
  unfold Sh.cutS
  rw [if_pos h3, show (s.low.ix + (k : Nat) - s.low.ix).toNat = k by omega]

theorem fold_ok {s : Sh} {k : Nat} (h1 : s.low.ix + (k : Nat) ≤ s.com) : s.foldE (s.low.ix + (k : Nat)) = 0 ∧ s.foldS (s.low.ix + (k : Nat)) = ⟨s.low.adds (s.tail.take k), s.tail.drop k, s.com⟩ := by
  have h3 : s.foldE (s.low.ix + (k : Nat)) = 0 := by
    unfold Sh.foldE
    rw [if_neg (by omega), if_neg (by omega)]
  refine ⟨h3, ?_⟩
  unfold Sh.foldS
  rw [if_pos h3, show (s.low.ix + (k : Nat) - s.low.ix).toNat = k by omega]

end Go.Proofs.YtnbgdkdnlfomeaaDoor.M

namespace Go.Proofs.YtnbgdkdnlfomeaaDoor.M
open Go.ChangeShapes Go.WideShapes Go.ChangeAt Go.RowKit Go.ChangeMaps Go.MapKept Go.Maps Go.Shelf Go.Proofs
set_option linter.unusedSimpArgs false

/-- The versions of cells together. -/
def vsum : List Ce → Int
  | [] => 0
  | c :: l => c.v + vsum l

theorem vsum_cons (c : Ce) (l : List Ce) : vsum (c :: l) = c.v + vsum l := rfl

theorem vsum_perm {a b : List Ce} (h : a.Perm b) : vsum a = vsum b := by
  induction h with
  | nil => rfl
  | cons x _ ih => rw [vsum_cons, vsum_cons, ih]
  | swap x y l => rw [vsum_cons, vsum_cons, vsum_cons, vsum_cons]; omega
  | trans _ _ i1 i2 => rw [i1, i2]

theorem vsum_pos {l : List Ce} (h : ∀ c ∈ l, 1 ≤ c.v) : 0 ≤ vsum l ∧ ∀ c ∈ l, c.v ≤ vsum l := by
  induction l with
  | nil => exact ⟨by decide, fun c hc => by cases hc⟩
  | cons x l ih =>
    obtain ⟨h1, h2⟩ := ih fun c hc => h c (List.mem_cons_of_mem _ hc)
    have hx := h x (List.mem_cons_self ..)
    rw [vsum_cons]
    refine ⟨by omega, fun c hc => ?_⟩
    rcases List.mem_cons.1 hc with rfl | hc
    · omega
    · have := h2 c hc; omega

theorem vsum_put : ∀ (l : List Ce) (c : Ce), vsum (putC l c) = vsum l + c.v - ((lookC l c.k).getD .z0).v
  | [], c => by show c.v + 0 = 0 + c.v - 0; omega
  | x :: l, c => by
    unfold putC lookC
    by_cases h : x.k = c.k
    · rw [if_pos h, if_pos h, vsum_cons, vsum_cons]
      show _ = _ + _ + _ - x.v
      omega
    · rw [if_neg h, if_neg h, vsum_cons, vsum_cons, vsum_put l c]
      omega

theorem vsum_app (a b : List Ce) : vsum (a ++ b) = vsum a + vsum b := by
  induction a with
  | nil => show vsum b = 0 + vsum b; omega
  | cons x a ih => rw [List.cons_append, vsum_cons, vsum_cons, ih]; omega

theorem lookC_putC : ∀ (l : List Ce) (c : Ce) (k : Nat), lookC (putC l c) k = if c.k = k then some c else lookC l k
  | [], c, k => by unfold putC lookC; rfl
  | x :: l, c, k => by
    unfold putC
    by_cases h : x.k = c.k
    · rw [if_pos h]
      unfold lookC
      by_cases h2 : c.k = k
      · rw [if_pos h2, if_pos h2]
      · rw [if_neg h2, if_neg h2, if_neg (by omega)]
    · rw [if_neg h]
      unfold lookC
      by_cases h2 : x.k = k
      · rw [if_pos h2, if_pos h2, if_neg (by omega)]
      · rw [if_neg h2, if_neg h2, lookC_putC l c k]

theorem putC_lenE (l : List Ce) (c : Ce) : (putC l c).length = if (lookC l c.k).isSome then l.length else l.length + 1 := by
  obtain ⟨_, _, h⟩ := putC_len l c
  cases hl : lookC l c.k with
  | some x => rw [h (by rw [hl]; rfl)]; rfl
  | none => rw [putC_new hl]; simp

theorem lookC_in : ∀ {l : List Ce}, Keys l → ∀ {c : Ce}, c ∈ l → lookC l c.k = some c
  | [], _, c, hc => by cases hc
  | x :: l, h, c, hc => by
    unfold lookC
    rcases List.mem_cons.1 hc with rfl | hc
    · rw [if_pos rfl]
    · rw [if_neg ((List.pairwise_cons.1 h.1).1 c hc), lookC_in h.tail hc]

theorem Keys.perm {a b : List Ce} (h : Keys a) (hp : a.Perm b) : Keys b :=
  ⟨hp.pairwise h.1 fun e => e.symm, fun c hc => h.2 c (hp.mem_iff.2 hc)⟩

theorem lookC_perm {a b : List Ce} (h : Keys a) (hp : a.Perm b) (k : Nat) : lookC b k = lookC a k := by
  cases ha : lookC a k with
  | some c =>
    obtain ⟨h1, rfl⟩ := lookC_mem ha
    exact lookC_in (h.perm hp) (hp.mem_iff.1 h1)
  | none =>
    cases hb : lookC b k with
    | none => rfl
    | some c =>
      obtain ⟨h1, h2⟩ := lookC_mem hb
      exact absurd h2 (lookC_none ha c (hp.mem_iff.2 h1))

/-- Sums that a table can tell. -/
structure Sm.tb (m : Sm) : Prop where
  pl : isPl m.ix m.ep = true
  ks : Keys m.cs
  rt : ∀ c ∈ m.cs, rightK c.k c.s = 0 ∧ 1 ≤ c.v
  sm : vsum m.cs = m.ix
  ln : m.cs.length ≤ 12
  dn : ∀ i : Nat, i < 4 → m.d i = .z0 ∨ ((m.d i).c = i ∧ isRq (m.d i).c (m.d i).q = true ∧ 1 ≤ (m.d i).v ∧ (m.d i).v ≤ m.ix)
  on : m.ix = 0 ∨ ∃ i : Nat, i < 4 ∧ 0 < (m.d i).q

theorem isRq_out {c q : Int} (h : isRq c q = true) : 0 ≤ c ∧ c < 4 ∧ 1 ≤ q := by
  unfold isRq at h
  simp only [Bool.and_eq_true, decide_eq_true_eq] at h
  exact ⟨h.1, h.2.1, h.2.2.1⟩

theorem isPl_out {ix ep : Int} (h : isPl ix ep = true) : 0 ≤ ix ∧ ix ≤ 1099511627776 ∧ 0 ≤ ep ∧ ep ≤ 1099511627776 := by
  unfold isPl isNm at h
  simp only [Bool.and_eq_true, decide_eq_true_eq] at h
  exact ⟨h.1.1.1, h.1.1.2, h.1.2.1, h.1.2.2⟩

theorem Sm.tb.add {m : Sm} (h : m.tb) {x : Rc} (hk : x.k < 18446744073709551616) (hs : m.stands x = 0) : (m.add x).tb := by
  obtain ⟨h1, h2, h3, h4, h5, h6, h7, h8, h9⟩ := stands_ok hs
  obtain ⟨p1, p2, p3, p4⟩ := isPl_out h.pl
  obtain ⟨v1, v2⟩ := vsum_pos fun c hc => (h.rt c hc).2
  obtain ⟨r1, r2, r3⟩ := isRq_out h6
  have ht : 0 ≤ ((lookC m.cs x.k).getD .z0).v ∧ ((lookC m.cs x.k).getD .z0).v ≤ m.ix := by
    cases hl : lookC m.cs x.k with
    | none => exact ⟨Int.le_refl _, p1⟩
    | some c =>
      obtain ⟨hc, _⟩ := lookC_mem hl
      have a1 := (h.rt c hc).2
      have a2 := v2 c hc
      have a3 := h.sm
      exact ⟨by show 0 ≤ c.v; omega, by show c.v ≤ m.ix; omega⟩
  refine ⟨?_, putC_keys h.ks hk, fun c hc => ?_, ?_, ?_, fun i hi => ?_, Or.inr ⟨x.c.toNat, by omega, ?_⟩⟩
  · show isPl x.ix x.ep = true
    unfold isPl isNm
    have e1 : (x.ix == 0) = false := by simp; omega
    have e2 : (x.ep == 0) = false := by simp; omega
    rw [e1, e2]
    simp
    omega
  · rcases putC_mem hc with rfl | hc | hc
    · exact ⟨h5, by show 1 ≤ x.v; omega⟩
    · exact h.rt c hc.1
    · exact h.rt c hc
  · show vsum (putC m.cs ⟨x.k, x.v, x.s⟩) = x.ix
    rw [vsum_put, h.sm]
    show m.ix + x.v - ((lookC m.cs x.k).getD .z0).v = x.ix
    omega
  · show (putC m.cs ⟨x.k, x.v, x.s⟩).length ≤ 12
    rw [putC_lenE]
    show (if (lookC m.cs x.k).isSome then m.cs.length else m.cs.length + 1) ≤ 12
    have hl := h.ln
    cases hls : (lookC m.cs x.k).isSome with
    | true => simpa using hl
    | false =>
      have : ¬ 12 ≤ m.cs.length := fun e => h9 ⟨hls, e⟩
      simp
      omega
  · show (if (i : Int) = x.c then (⟨x.c, x.q, x.v⟩ : Dn) else m.d i) = .z0 ∨ _
    by_cases hic : (i : Int) = x.c
    · refine Or.inr ?_
      show ((if (i : Int) = x.c then (⟨x.c, x.q, x.v⟩ : Dn) else m.d i)).c = i ∧ isRq ((if (i : Int) = x.c then (⟨x.c, x.q, x.v⟩ : Dn) else m.d i)).c ((if (i : Int) = x.c then (⟨x.c, x.q, x.v⟩ : Dn) else m.d i)).q = true ∧ 1 ≤ ((if (i : Int) = x.c then (⟨x.c, x.q, x.v⟩ : Dn) else m.d i)).v ∧ ((if (i : Int) = x.c then (⟨x.c, x.q, x.v⟩ : Dn) else m.d i)).v ≤ x.ix
      rw [if_pos hic]
      exact ⟨hic.symm, h6, by show 1 ≤ x.v; omega, by show x.v ≤ x.ix; omega⟩
    · rw [if_neg hic]
      rcases h.dn i hi with h0 | h0
      · exact Or.inl h0
      · refine Or.inr ?_
        show ((if (i : Int) = x.c then (⟨x.c, x.q, x.v⟩ : Dn) else m.d i)).c = i ∧ isRq ((if (i : Int) = x.c then (⟨x.c, x.q, x.v⟩ : Dn) else m.d i)).c ((if (i : Int) = x.c then (⟨x.c, x.q, x.v⟩ : Dn) else m.d i)).q = true ∧ 1 ≤ ((if (i : Int) = x.c then (⟨x.c, x.q, x.v⟩ : Dn) else m.d i)).v ∧ ((if (i : Int) = x.c then (⟨x.c, x.q, x.v⟩ : Dn) else m.d i)).v ≤ x.ix
        rw [if_neg hic]
        exact ⟨h0.1, h0.2.1, h0.2.2.1, by have := h0.2.2.2; omega⟩
  · show 0 < (if ((x.c.toNat : Nat) : Int) = x.c then (⟨x.c, x.q, x.v⟩ : Dn) else m.d x.c.toNat).q
    rw [if_pos (by omega)]
    show 0 < x.q
    omega

theorem Sm.tb.adds {l : List Rc} : ∀ {m : Sm}, m.tb → okT m l → (∀ x ∈ l, okR x) → (m.adds l).tb := by
  induction l with
  | nil => intro m h _ _; exact h
  | cons x l ih =>
    intro m h ho hr
    rw [okT_cons] at ho
    exact ih (h.add (hr x (List.mem_cons_self ..)).1 ho.1) ho.2 fun y hy => hr y (List.mem_cons_of_mem _ hy)

theorem sumC_eq {C : List Ce} (h1 : ∀ c ∈ C, 1 ≤ c.v) (h2 : vsum C ≤ 1099511627776) : ∀ k, k ≤ C.length → sumC C k = vsum (C.take k)
  | 0, _ => rfl
  | k + 1, hk => by
    have hi := sumC_eq h1 h2 k (by omega)
    have e : C.take (k + 1) = C.take k ++ [C[k]] := by rw [List.take_add_one, List.getElem?_eq_getElem (by omega)]; rfl
    have e2 : vsum (C.take (k + 1)) = vsum (C.take k) + C[k].v := by rw [e, vsum_app, vsum_cons]; show _ = _; simp [vsum]
    have p1 := (vsum_pos (l := C.take (k + 1)) fun c hc => h1 c (List.mem_of_mem_take hc)).1
    have p2 := (vsum_pos (l := C.drop (k + 1)) fun c hc => h1 c (List.mem_of_mem_drop hc)).1
    have p3 : vsum C = vsum (C.take (k + 1)) + vsum (C.drop (k + 1)) := by rw [← vsum_app, List.take_append_drop]
    show wrap64 (sumC C k + (C.getD k .z0).v) = _
    rw [hi, List.getD_eq_getElem?_getD, List.getElem?_eq_getElem (by omega), e2]
    show wrap64 (vsum (C.take k) + C[k].v) = _
    rw [← e2]
    unfold wrap64
    omega

end Go.Proofs.YtnbgdkdnlfomeaaDoor.M

namespace Go.Proofs.YtnbgdkdnlfomeaaDoor.M
open Go.ChangeShapes Go.WideShapes Go.ChangeAt Go.RowKit Go.ChangeMaps Go.MapKept Go.Maps Go.Shelf Go.Proofs
set_option linter.unusedSimpArgs false

theorem rise_at {C : List Ce} (h : Rise C) {i : Nat} (hi : i < C.length) : ceR C i = true := by
  unfold ceR
  cases i with
  | zero => rfl
  | succ i =>
    rw [List.getD_eq_getElem?_getD, List.getD_eq_getElem?_getD, Nat.add_sub_cancel, List.getElem?_eq_getElem (by omega), List.getElem?_eq_getElem hi]
    have h1 := List.pairwise_iff_getElem.1 h i (i + 1) (by omega) hi (by omega)
    have h2 : cmpN C[i].k C[i + 1].k = -1 := if_pos h1
    show ((i + 1 == 0) || decide (cmpN C[i].k C[i + 1].k < 0)) = true
    rw [h2]
    simp

theorem donL_mem {m : Sm} (hd : ∀ i : Nat, i < 4 → 0 < (m.d i).q → (m.d i).c = i) : ∀ k, k ≤ 4 → (donL m k).Pairwise (fun a b => a.c < b.c) ∧ (∀ x, x ∈ donL m k ↔ ∃ i, i < k ∧ 0 < (m.d i).q ∧ x = m.d i)
  | 0, _ => ⟨List.Pairwise.nil, fun x => ⟨fun h => (by cases h), fun ⟨i, h, _⟩ => absurd h (Nat.not_lt_zero _)⟩⟩
  | k + 1, hk => by
    obtain ⟨h1, h2⟩ := donL_mem hd k (by omega)
    by_cases hq : 0 < (m.d k).q
    · rw [donL_yes hq]
      refine ⟨List.pairwise_append.2 ⟨h1, List.pairwise_singleton _ _, fun a ha b hb => ?_⟩, fun x => ?_⟩
      · rw [List.mem_singleton.1 hb]
        obtain ⟨i, hi, hiq, rfl⟩ := (h2 a).1 ha
        rw [hd i (by omega) hiq, hd k (by omega) hq]
        omega
      · rw [List.mem_append, List.mem_singleton, h2]
        refine ⟨fun h => ?_, fun ⟨i, hi, hiq, e⟩ => ?_⟩
        · rcases h with ⟨i, hi, hiq, e⟩ | e
          · exact ⟨i, by omega, hiq, e⟩
          · exact ⟨k, by omega, hq, e⟩
        · rcases Nat.lt_or_eq_of_le (Nat.le_of_lt_succ hi) with h | h
          · exact Or.inl ⟨i, h, hiq, e⟩
          · subst h; exact Or.inr e
    · rw [donL_no hq]
      refine ⟨h1, fun x => ?_⟩
      rw [h2]
      refine ⟨fun ⟨i, hi, hiq, e⟩ => ⟨i, by omega, hiq, e⟩, fun ⟨i, hi, hiq, e⟩ => ?_⟩
      rcases Nat.lt_or_eq_of_le (Nat.le_of_lt_succ hi) with h | h
      · exact ⟨i, h, hiq, e⟩
      · subst h; exact absurd hiq hq

theorem Sm.tb.dc {m : Sm} (h : m.tb) (i : Nat) (hi : i < 4) (hq : 0 < (m.d i).q) : (m.d i).c = i ∧ isRq (m.d i).c (m.d i).q = true ∧ 1 ≤ (m.d i).v ∧ (m.d i).v ≤ m.ix := by
  rcases h.dn i hi with h0 | h0
  · rw [h0] at hq; exact absurd hq (by decide)
  · exact h0

/-- The table of such sums may be. -/
theorem Sm.tb.chk {m : Sm} (h : m.tb) : chkE m.ix m.ep (sortC m.cs) (donL m 4) = 0 := by
  have hp := sortC_perm m.cs
  have hrt : ∀ c ∈ sortC m.cs, rightK c.k c.s = 0 ∧ 1 ≤ c.v := fun c hc => h.rt c (hp.mem_iff.1 hc)
  have hsm : vsum (sortC m.cs) = m.ix := (vsum_perm hp).trans h.sm
  have hpl := isPl_out h.pl
  have hps := vsum_pos fun c hc => (hrt c hc).2
  have hri := sortC_rise m.cs h.ks
  have h1 : areC m.ix (sortC m.cs) = true := by
    unfold areC
    simp only [Bool.and_eq_true, decide_eq_true_eq, List.all_eq_true, List.mem_range, beq_iff_eq]
    refine ⟨by rw [sortC_len]; exact h.ln, fun i hi => ?_, ?_⟩
    · have hm : (sortC m.cs).getD i .z0 ∈ sortC m.cs := by rw [List.getD_eq_getElem?_getD, List.getElem?_eq_getElem hi]; exact List.getElem_mem hi
      unfold ceO isVr
      simp only [Bool.and_eq_true, decide_eq_true_eq, beq_iff_eq]
      exact ⟨rise_at hri hi, (hrt _ hm).1, (hrt _ hm).2, by rw [← hsm]; exact hps.2 _ hm⟩
    · rw [sumC_eq (fun c hc => (hrt c hc).2) (by rw [hsm]; exact hpl.2.1) _ (Nat.le_refl _), List.take_of_length_le (Nat.le_refl _), hsm]
  obtain ⟨d1, d2⟩ := donL_mem (fun i hi hq => (h.dc i hi hq).1) 4 (Nat.le_refl _)
  have h2 : areD m.ix (donL m 4) = true := by
    unfold areD
    simp only [Bool.and_eq_true, Bool.or_eq_true, decide_eq_true_eq, List.all_eq_true, List.mem_range, beq_iff_eq]
    refine ⟨fun i hi => ?_, ?_⟩
    · have hm : (donL m 4).getD i .z0 ∈ donL m 4 := by rw [List.getD_eq_getElem?_getD, List.getElem?_eq_getElem hi]; exact List.getElem_mem hi
      obtain ⟨j, hj, hjq, e⟩ := (d2 _).1 hm
      have hdj := h.dc j hj hjq
      unfold dnO isVr
      simp only [Bool.and_eq_true, decide_eq_true_eq]
      refine ⟨?_, by rw [e]; exact hdj.2.1, by rw [e]; exact hdj.2.2.1, by rw [e]; exact hdj.2.2.2⟩
      unfold dnR
      cases i with
      | zero => rfl
      | succ i =>
        rw [List.getD_eq_getElem?_getD, List.getD_eq_getElem?_getD, Nat.add_sub_cancel, List.getElem?_eq_getElem (by omega), List.getElem?_eq_getElem hi]
        have h3 := List.pairwise_iff_getElem.1 d1 i (i + 1) (by omega) hi (by omega)
        show ((i + 1 == 0) || decide ((donL m 4)[i].c < (donL m 4)[i + 1].c)) = true
        rw [decide_eq_true h3]
        simp
    · rcases h.on with h0 | ⟨i, hi, hq⟩
      · exact Or.inr h0
      · exact Or.inl (List.length_pos_of_mem ((d2 (m.d i)).2 ⟨i, hi, hq, rfl⟩))
  unfold chkE
  rw [if_pos h.pl, if_pos h1, if_pos h2]

theorem cels_eq : ∀ (C : List Ce) (m : Sm), Keys (m.cs ++ C) → (C.foldl Sm.cel m).cs = m.cs ++ C
  | [], m, _ => by simp
  | c :: C, m, h => by
    have hn : lookC m.cs c.k = none := by
      cases hl : lookC m.cs c.k with
      | none => rfl
      | some x =>
        obtain ⟨h1, h2⟩ := lookC_mem hl
        exact absurd h2 ((List.pairwise_append.1 h.1).2.2 x h1 c (List.mem_cons_self ..))
    have e : (m.cel c).cs = m.cs ++ [c] := putC_new hn
    rw [List.foldl_cons, cels_eq C (m.cel c) (by rw [e, List.append_assoc]; exact h), e, List.append_assoc]
    rfl

theorem cels_d : ∀ (C : List Ce) (m : Sm), (C.foldl Sm.cel m).d = m.d
  | [], _ => rfl
  | c :: C, m => cels_d C (m.cel c)

theorem dons_d (i : Nat) : ∀ (D : List Dn) (m : Sm), (∃ x ∈ D, x.c = i ∧ (D.foldl Sm.don m).d i = x) ∨ ((∀ x ∈ D, x.c ≠ i) ∧ (D.foldl Sm.don m).d i = m.d i)
  | [], m => Or.inr ⟨fun x h => (by cases h), rfl⟩
  | y :: D, m => by
    rw [List.foldl_cons]
    rcases dons_d i D (m.don y) with ⟨x, hx, hc, e⟩ | ⟨hn, e⟩
    · exact Or.inl ⟨x, List.mem_cons_of_mem _ hx, hc, e⟩
    · rw [e]
      show (∃ x ∈ y :: D, x.c = i ∧ (if (i : Int) = y.c then y else m.d i) = x) ∨ _ ∧ (if (i : Int) = y.c then y else m.d i) = m.d i
      by_cases hy : (i : Int) = y.c
      · rw [if_pos hy]
        exact Or.inl ⟨y, List.mem_cons_self .., hy.symm, rfl⟩
      · rw [if_neg hy]
        refine Or.inr ⟨fun x hx => ?_, rfl⟩
        rcases List.mem_cons.1 hx with rfl | hx
        · exact fun e => hy e.symm
        · exact hn x hx

/-- Sums that tell the same. -/
structure Eqv (a b : Sm) : Prop where
  ix : a.ix = b.ix
  ep : a.ep = b.ep
  lk : ∀ k, lookC a.cs k = lookC b.cs k
  ln : a.cs.length = b.cs.length
  d : ∀ i : Nat, i < 4 → a.d i = b.d i

theorem Eqv.add {a b : Sm} (h : Eqv a b) (x : Rc) : Eqv (a.add x) (b.add x) := by
  refine ⟨rfl, rfl, fun k => ?_, ?_, fun i hi => ?_⟩
  · show lookC (putC a.cs ⟨x.k, x.v, x.s⟩) k = lookC (putC b.cs ⟨x.k, x.v, x.s⟩) k
    rw [lookC_putC, lookC_putC, h.lk]
  · show (putC a.cs ⟨x.k, x.v, x.s⟩).length = (putC b.cs ⟨x.k, x.v, x.s⟩).length
    rw [putC_lenE, putC_lenE, h.lk, h.ln]
  · show (if (i : Int) = x.c then (⟨x.c, x.q, x.v⟩ : Dn) else a.d i) = (if (i : Int) = x.c then (⟨x.c, x.q, x.v⟩ : Dn) else b.d i)
    rw [h.d i hi]

theorem Eqv.adds {l : List Rc} : ∀ {a b : Sm}, Eqv a b → Eqv (a.adds l) (b.adds l) := by
  induction l with
  | nil => intro a b h; exact h
  | cons x l ih => intro a b h; exact ih (h.add x)

theorem Eqv.stands {a b : Sm} (h : Eqv a b) (x : Rc) : a.stands x = b.stands x := by
  unfold Sm.stands
  rw [h.ix, h.ep, h.lk, h.ln]
  by_cases hq : isRq x.c x.q = false
  · rw [if_pos hq, if_pos hq]
  · rw [if_neg hq, if_neg hq]
    have := isRq_out (by simpa using hq : isRq x.c x.q = true)
    rw [h.d x.c.toNat (by omega)]

/-- Sums made of a table tell the same as the table's. -/
theorem Sm.tb.again {m : Sm} (h : m.tb) : Eqv (smOf m.ix m.ep (sortC m.cs) (donL m 4)) m := by
  have hp := sortC_perm m.cs
  have hk : Keys (sortC m.cs) := h.ks.perm hp.symm
  obtain ⟨c1, c2, c3⟩ := smOf_cs m.ix m.ep (sortC m.cs) (donL m 4)
  have hcs : (smOf m.ix m.ep (sortC m.cs) (donL m 4)).cs = sortC m.cs := by
    unfold smOf
    rw [(dons_cs _ _).1, cels_eq _ _ hk]
    rfl
  refine ⟨c2, c3, fun k => by rw [hcs]; exact lookC_perm h.ks hp.symm k, by rw [hcs, sortC_len], fun i hi => ?_⟩
  obtain ⟨d1, d2⟩ := donL_mem (fun i hi hq => (h.dc i hi hq).1) 4 (Nat.le_refl _)
  unfold smOf
  rcases dons_d i (donL m 4) ((sortC m.cs).foldl Sm.cel ⟨m.ix, m.ep, [], fun _ => .z0⟩) with ⟨x, hx, hc, e⟩ | ⟨hn, e⟩
  · rw [e]
    obtain ⟨j, hj, hjq, rfl⟩ := (d2 x).1 hx
    rw [(h.dc j hj hjq).1] at hc
    have : j = i := by omega
    rw [this]
  · rw [e, cels_d]
    show Dn.z0 = m.d i
    rcases h.dn i hi with h0 | h0
    · exact h0.symm
    · have hq := (isRq_out h0.2.1).2.2
      exact absurd h0.1 (hn _ ((d2 (m.d i)).2 ⟨i, hi, by omega, rfl⟩))

/-- The sums of a table that may be. -/
theorem smOf_tb {ix ep : Int} {C : List Ce} {D : List Dn} (h : chkE ix ep C D = 0) (hck : ∀ c ∈ C, c.k < 18446744073709551616) : (smOf ix ep C D).tb := by
  obtain ⟨hpl, hC, hD⟩ := chk_ok h
  have hb := isPl_out hpl
  unfold areC at hC
  simp only [Bool.and_eq_true, decide_eq_true_eq, List.all_eq_true, List.mem_range, beq_iff_eq] at hC
  obtain ⟨hl, hO, hS⟩ := hC
  have hO2 : ∀ i, (hi : i < C.length) → ceR C i = true ∧ rightK C[i].k C[i].s = 0 ∧ 1 ≤ C[i].v ∧ C[i].v ≤ ix := fun i hi => by
    have h1 := hO i hi
    unfold ceO isVr at h1
    rw [List.getD_eq_getElem?_getD, List.getElem?_eq_getElem hi] at h1
    simp only [Option.getD_some, Bool.and_eq_true, decide_eq_true_eq, beq_iff_eq] at h1
    exact ⟨h1.1, h1.2.1, h1.2.2.1, h1.2.2.2⟩
  have hstep : ∀ i, (hi : i + 1 < C.length) → (C[i]'(by omega)).k < C[i + 1].k := fun i hi => by
    have h1 := (hO2 (i + 1) hi).1
    unfold ceR at h1
    rw [List.getD_eq_getElem?_getD, List.getD_eq_getElem?_getD, Nat.add_sub_cancel, List.getElem?_eq_getElem (by omega), List.getElem?_eq_getElem hi] at h1
    have h2 : cmpN (C[i]'(by omega)).k C[i + 1].k < 0 := by simpa using h1
    unfold cmpN at h2
    split at h2
    · assumption
    · split at h2 <;> omega
  have hri : Rise C := by
    refine List.pairwise_iff_getElem.2 fun i j hi hj hij => ?_
    obtain ⟨n, rfl⟩ : ∃ n, j = i + 1 + n := ⟨j - (i + 1), by omega⟩
    clear hij
    induction n with
    | zero => exact hstep i hj
    | succ n ih => exact Nat.lt_trans (ih (by omega)) (hstep (i + 1 + n) hj)
  have hK : Keys C := ⟨hri.imp fun h => Nat.ne_of_lt h, hck⟩
  have hrt : ∀ c ∈ C, rightK c.k c.s = 0 ∧ 1 ≤ c.v := fun c hc => by
    obtain ⟨i, hi, rfl⟩ := List.getElem_of_mem hc
    exact ⟨(hO2 i hi).2.1, (hO2 i hi).2.2.1⟩
  obtain ⟨c1, c2, c3⟩ := smOf_cs ix ep C D
  have hcs : (smOf ix ep C D).cs = C := by
    unfold smOf
    rw [(dons_cs _ _).1, cels_eq C ⟨ix, ep, [], fun _ => .z0⟩ hK]
    rfl
  unfold areD at hD
  simp only [Bool.and_eq_true, Bool.or_eq_true, decide_eq_true_eq, List.all_eq_true, List.mem_range, beq_iff_eq] at hD
  obtain ⟨hDO, hDn⟩ := hD
  have hdm : ∀ x ∈ D, isRq x.c x.q = true ∧ 1 ≤ x.v ∧ x.v ≤ ix := fun x hx => by
    obtain ⟨i, hi, rfl⟩ := List.getElem_of_mem hx
    have h1 := hDO i hi
    unfold dnO isVr at h1
    rw [List.getD_eq_getElem?_getD, List.getElem?_eq_getElem hi] at h1
    simp only [Option.getD_some, Bool.and_eq_true, decide_eq_true_eq] at h1
    exact ⟨h1.2.1, h1.2.2.1, h1.2.2.2⟩
  have hdd := fun i => dons_d i D (C.foldl Sm.cel ⟨ix, ep, [], fun _ => .z0⟩)
  refine ⟨by rw [c2, c3]; exact hpl, by rw [hcs]; exact hK, by rw [hcs]; exact hrt, ?_, by rw [hcs]; exact hl, fun i hi => ?_, ?_⟩
  · rw [hcs, c2]
    have hle : ∀ k, k ≤ C.length → vsum (C.take k) ≤ k * 1099511627776 := fun k => by
      induction k with
      | zero => intro _; show (0 : Int) ≤ _; omega
      | succ k ih =>
        intro hk
        have e : C.take (k + 1) = C.take k ++ [C[k]] := by rw [List.take_add_one, List.getElem?_eq_getElem (by omega)]; rfl
        have := ih (by omega)
        have h3 := (hO2 k (by omega)).2.2.2
        rw [e, vsum_app, vsum_cons]
        simp only [vsum]
        omega
    have hsum : ∀ k, k ≤ C.length → sumC C k = vsum (C.take k) := fun k => by
      induction k with
      | zero => intro _; rfl
      | succ k ih =>
        intro hk
        have e : C.take (k + 1) = C.take k ++ [C[k]] := by rw [List.take_add_one, List.getElem?_eq_getElem (by omega)]; rfl
        have e2 : vsum (C.take (k + 1)) = vsum (C.take k) + C[k].v := by rw [e, vsum_app, vsum_cons]; simp [vsum]
        have p1 := (vsum_pos (l := C.take (k + 1)) fun c hc => (hrt c (List.mem_of_mem_take hc)).2).1
        have p2 := hle (k + 1) hk
        show wrap64 (sumC C k + (C.getD k .z0).v) = _
        rw [ih (by omega), List.getD_eq_getElem?_getD, List.getElem?_eq_getElem (by omega)]
        show wrap64 (vsum (C.take k) + C[k].v) = _
        rw [← e2]
        unfold wrap64
        omega
    rw [← hS, hsum _ (Nat.le_refl _), List.take_of_length_le (Nat.le_refl _)]
  · show (D.foldl Sm.don (C.foldl Sm.cel ⟨ix, ep, [], fun _ => .z0⟩)).d i = .z0 ∨ (((D.foldl Sm.don (C.foldl Sm.cel ⟨ix, ep, [], fun _ => .z0⟩)).d i).c = i ∧ isRq ((D.foldl Sm.don (C.foldl Sm.cel ⟨ix, ep, [], fun _ => .z0⟩)).d i).c ((D.foldl Sm.don (C.foldl Sm.cel ⟨ix, ep, [], fun _ => .z0⟩)).d i).q = true ∧ 1 ≤ ((D.foldl Sm.don (C.foldl Sm.cel ⟨ix, ep, [], fun _ => .z0⟩)).d i).v ∧ ((D.foldl Sm.don (C.foldl Sm.cel ⟨ix, ep, [], fun _ => .z0⟩)).d i).v ≤ (smOf ix ep C D).ix)
    rw [c2]
    rcases hdd i with ⟨x, hx, hc, e⟩ | ⟨_, e⟩
    · rw [e]
      exact Or.inr ⟨hc, hdm x hx⟩
    · rw [e, cels_d]
      exact Or.inl rfl
  · rw [c2]
    rcases hDn with h0 | h0
    · obtain ⟨x, hx⟩ := List.exists_mem_of_length_pos h0
      have hr := isRq_out (hdm x hx).1
      refine Or.inr ⟨x.c.toNat, by omega, ?_⟩
      show 0 < ((D.foldl Sm.don (C.foldl Sm.cel ⟨ix, ep, [], fun _ => .z0⟩)).d x.c.toNat).q
      rcases hdd x.c.toNat with ⟨y, hy, _, e⟩ | ⟨hn, _⟩
      · rw [e]
        have := (isRq_out (hdm y hy).1).2.2
        omega
      · exact absurd (by omega : x.c = ((x.c.toNat : Nat) : Int)) (hn x hx)
    · exact Or.inl h0

end Go.Proofs.YtnbgdkdnlfomeaaDoor.M

namespace Go.Proofs.YtnbgdkdnlfomeaaDoor.M
open Go.ChangeShapes Go.WideShapes Go.ChangeAt Go.RowKit Go.ChangeMaps Go.MapKept Go.Maps Go.Shelf Go.Proofs
set_option linter.unusedSimpArgs false

/-- A good shelf whose table can be told. -/
structure Sh.g2 (s : Sh) : Prop where
  gd : s.gd
  tb : s.low.tb
  ok : ∀ x ∈ s.tail, okR x

theorem okT_front {m : Sm} {l : List Rc} (h : okT m l) (k : Nat) : okT m (l.take k) ∧ okT (m.adds (l.take k)) (l.drop k) := by
  rw [← List.take_append_drop k l] at h
  exact okT_app.1 h

theorem Sh.g2.front {s : Sh} (h : s.g2) (k : Nat) : (s.low.adds (s.tail.take k)).tb := h.tb.adds (okT_front h.gd.ok k).1 fun x hx => h.ok x (List.mem_of_mem_take hx)

theorem Sh.g2.add {s : Sh} (h : s.g2) {x : Rc} (hk : x.k < 18446744073709551616) : (s.addS x).g2 := by
  refine ⟨h.gd.add x, ?_, ?_⟩
  · unfold Sh.addS; split <;> exact h.tb
  · by_cases he : s.addE x = 0
    · obtain ⟨h1, h2⟩ := addE_ok he
      rw [(addE_of h1 h2).2]
      intro y hy
      rcases List.mem_append.1 hy with hy | hy
      · exact h.ok y hy
      · rw [List.mem_singleton.1 hy]
        have := isRq_out (stands_ok h1).2.2.2.2.2.1
        exact ⟨hk, this.1, this.2.1⟩
    · unfold Sh.addS
      rw [if_neg he]
      exact h.ok

theorem Sh.g2.cut {s : Sh} (h : s.g2) (i : Int) : (s.cutS i).g2 := by
  refine ⟨h.gd.cut i, ?_, ?_⟩
  · unfold Sh.cutS; split <;> exact h.tb
  · unfold Sh.cutS
    split
    · exact fun y hy => h.ok y (List.mem_of_mem_take hy)
    · exact h.ok

theorem Sh.g2.set {s : Sh} (h : s.g2) (i : Int) : (s.setS i).g2 := by
  refine ⟨h.gd.set i, ?_, ?_⟩
  · unfold Sh.setS; split <;> exact h.tb
  · unfold Sh.setS; split <;> exact h.ok

theorem Sh.g2.fold {s : Sh} (h : s.g2) (i : Int) : (s.foldS i).g2 := by
  refine ⟨h.gd.fold i, ?_, ?_⟩
  · unfold Sh.foldS
    split
    · exact h.front _
    · exact h.tb
  · unfold Sh.foldS
    split
    · exact fun y hy => h.ok y (List.mem_of_mem_drop hy)
    · exact h.ok

theorem nextR_k {s : Sh} {x : Rc} (hk : x.k < 18446744073709551616) : (s.nextR x).k < 18446744073709551616 := by
  unfold Sh.nextR
  split
  · exact hk
  · decide

theorem Sh.g2.does {s : Sh} (h : s.g2) {d : Dv} (hd : okD d) : ((s.doR d).2.2).g2 := by
  have hk := hd.1
  have hx := hd.2.2.1
  unfold Sh.doR
  repeat (split; first | exact h.add hx | exact h.cut _ | exact h.set _ | exact h.fold _ | exact h.add (nextR_k hk) | skip)
  all_goals first | exact h.add (nextR_k hk) | exact h

theorem Sh.g2.runs {s : Sh} (h : s.g2) {l : List Dv} (hl : ∀ d ∈ l, okD d) : (s.runs l).g2 := by
  unfold Sh.runs
  induction l generalizing s with
  | nil => exact h
  | cons d l ih => exact ih (h.does (hl d (List.mem_cons_self ..))) fun x hx => hl x (List.mem_cons_of_mem _ hx)

theorem frS_g2 {ix ep : Int} {C : List Ce} {D : List Dn} (h : chkE ix ep C D = 0) (hck : ∀ c ∈ C, c.k < 18446744073709551616) : (frS ix ep C D).g2 := ⟨frS_gd h, smOf_tb h hck, fun x hx => by cases hx⟩

theorem tb_fit {m : Sm} (h : m.tb) : ∀ c ∈ sortC m.cs, c.k < 18446744073709551616 ∧ c.s.size ≤ 9223372036854775807 := fun c hc => by
  have hm := (sortC_perm m.cs).mem_iff.1 hc
  exact ⟨h.ks.2 c hm, right_size (h.rt c hm).1⟩

theorem fromX (own : Nat → Nat) {j : Nat} {V : World} {v : Value} {m : Sm} (h : TabR V v m) (ht : m.tb) (hT : Tabs V) :
    Calls Tryd.prog 38 #[v] V fun e W => ∃ g, e = .returned (.tuple #[.pointer (some ⟨g, 0, none⟩), .int .i64 0]) ∧ Below V.heap.size V W ∧ Stp own j V W ∧ SX (mkO own V W j) j W g ⟨smOf m.ix m.ep (sortC m.cs) (donL m 4), [], m.ix⟩ := by
  obtain ⟨pc, cc, pd, cd, rfl, h1, h2⟩ := h
  have hln := ht.ln
  have hdl := donL_len m 4
  refine (from_ok m.ix m.ep pc m.cs.length cc pd (donL m 4).length cd (sortC m.cs) (donL m 4) V h1 h2 (by omega) (tb_fit ht) hT (by omega) ht.chk).mono ?_
  rintro e W ⟨g, b, rfl, hZ⟩
  exact ⟨g, rfl, hZ.bl.out, hZ.sx⟩

theorem checkX {V : World} {v : Value} {m : Sm} (h : TabR V v m) (ht : m.tb) (hT : Tabs V) :
    Calls Tryd.prog 11 #[v] V fun e W => e = .returned (.int .i64 0) ∧ Below V.heap.size V W := by
  obtain ⟨pc, cc, pd, cd, rfl, h1, h2⟩ := h
  have hdl := donL_len m 4
  have h3 := check_any m.ix m.ep pc m.cs.length cc pd (donL m 4).length cd (sortC m.cs) (donL m 4) V h1 h2 (by omega) (tb_fit ht) hT
  rw [ht.chk] at h3
  exact h3

end Go.Proofs.YtnbgdkdnlfomeaaDoor.M
