/-
  Own text: what the form tells of arguments that are keys, requests, records and calls.
-/
import Derived.Test.YtnbgdkdnlfomeabDoorBDo
import Derived.Test.YtnbgdkdnlfomeabDoorOpen
import Derived.Deep.Slices
namespace Go.Proofs.YtnbgdkdnlfomeabDoor.M
open Go.ChangeShapes Go.WideShapes Go.ChangeAt Go.RowKit
set_option maxRecDepth 20000

/-- A number that fits. -/
def Wf (x : Int) : Prop := (Lit.int .i64 x).wf = true

theorem byt_of_wf {xs : List Int} (h : ∀ x ∈ xs, (Lit.int .u8 x).wf = true) : Byt xs := fun x hx => by
  have h1 := wf_bounds (h x hx)
  have h2 : IntKind.u8.min = 0 := rfl
  have h3 : IntKind.u8.max = 255 := rfl
  omega

/-- The cells of an array of integers that reads as something. -/
theorem trod_nums {H : Type} {enc : TypeId × Value → H} {P : Program} {t e : TypeId} {k : IntKind} {n : Nat} (ht : P.underlying t = some (.array n e)) (he : P.underlying e = some (.int k)) (hc : P.cellsOf e = 1) (hct : P.cellsOf t = n) {W : World} {fuel : Nat} {cs : List Value} {x : DataW H × List MemPlace}
    (h : DataW.trod enc P W 0 (fun _ => true) true fuel t cs = some x) : ∃ xs : List Int, xs.length = n ∧ cs = xs.map (Value.int k) ∧ ∀ y ∈ xs, (Lit.int k y).wf = true := by
  obtain ⟨ys, m, _, _, hl, hyl, hel⟩ := DataW.trod_array ht h
  rw [hct] at hl
  have each : ∀ i, i < n → ∃ a : Int, cs[i]? = some (.int k a) ∧ (Lit.int k a).wf = true := by
    intro i hi
    have h1 := hel i hi
    rw [hc, Nat.mul_one, List.getElem?_eq_getElem (by omega)] at h1
    obtain ⟨a, ea, _, wa⟩ := DataW.trod_int he h1
    refine ⟨a, ?_, wa⟩
    have h3 : (List.take 1 (List.drop i cs))[0]? = some (.int k a) := by rw [ea]; rfl
    rw [List.getElem?_take, if_pos (by decide), List.getElem?_drop, Nat.add_zero] at h3
    exact h3
  refine ⟨cs.map intOf, by rw [List.length_map, hl], ?_, fun y hy => ?_⟩
  · apply List.ext_getElem?
    intro i
    rw [List.map_map, List.getElem?_map]
    rcases Nat.lt_or_ge i n with hi | hi
    · obtain ⟨a, ha, _⟩ := each i hi
      rw [ha]
      rfl
    · rw [List.getElem?_eq_none (by omega)]
      rfl
  · obtain ⟨u, hu, rfl⟩ := List.mem_map.1 hy
    obtain ⟨i, hi, rfl⟩ := List.getElem_of_mem hu
    obtain ⟨a, ha, wa⟩ := each i (by omega)
    rw [List.getElem?_eq_getElem hi] at ha
    rw [Option.some.inj ha]
    exact wa

theorem open_arr {H : Type} {enc : TypeId × Value → H} {P : Program} {t e : TypeId} {k : IntKind} {n : Nat} (ht : P.underlying t = some (.array n e)) (he : P.underlying e = some (.int k)) (hc : P.cellsOf e = 1) (hct : P.cellsOf t = n) {W : World} {r : Reach} {b0 : Nat} {v : Value} {d : DataW H} {p : List MemPlace}
    (hval : Value.okWide P W r b0 t v) (hd : DataW.Trod enc P W 0 (fun _ => true) true t v d p) : ∃ xs : List Int, v = .agg (nums k xs) ∧ xs.length = n ∧ ∀ x ∈ xs, (Lit.int k x).wf = true := by
  simp only [Value.okWide, ht] at hval
  obtain ⟨cs, rfl, h2, _⟩ := hval
  obtain ⟨fuel, hf⟩ := hd
  obtain ⟨xs, hl, hcs, hwf⟩ := trod_nums ht he hc hct hf
  refine ⟨xs, ?_, hl, hwf⟩
  have h3 : cs.toList = xs.map (Value.int k) := hcs
  unfold nums
  rw [← h3]

theorem open_key {H : Type} {enc : TypeId × Value → H} {W : World} {r : Reach} {b0 : Nat} {v : Value} {d : DataW H} {p : List MemPlace}
    (hval : Value.okWide Tryd.prog W r b0 37 v) (hd : DataW.Trod enc Tryd.prog W 0 (fun _ => true) true 37 v d p) : ∃ q : Nat, v = .agg #[.int .u8 (bt (q) 0), .int .u8 (bt (q) 1), .int .u8 (bt (q) 2), .int .u8 (bt (q) 3), .int .u8 (bt (q) 4), .int .u8 (bt (q) 5), .int .u8 (bt (q) 6), .int .u8 (bt (q) 7)] ∧ q < 18446744073709551616 := by
  obtain ⟨xs, rfl, hl, hwf⟩ := open_arr Tryd.underlying37 Tryd.underlying5 (by kernel_rfl) (by kernel_rfl) hval hd
  refine ⟨shN xs 8, ?_, sh_lt64 (byt_of_wf hwf)⟩
  rw [← nums_bt, eig_sh hl (byt_of_wf hwf)]

section
variable {H : Type} {enc : TypeId × Value → H} {W : World} {fuel : Nat} {cs : List Value} {x : DataW H × List MemPlace}

theorem key_cells (h : DataW.trod enc Tryd.prog W 0 (fun _ => true) true fuel 37 cs = some x) : ∃ n : Nat, n < 18446744073709551616 ∧ cs = [.int .u8 (bt n 0), .int .u8 (bt n 1), .int .u8 (bt n 2), .int .u8 (bt n 3), .int .u8 (bt n 4), .int .u8 (bt n 5), .int .u8 (bt n 6), .int .u8 (bt n 7)] := by
  obtain ⟨xs, hl, e, hwf⟩ := trod_nums Tryd.underlying37 Tryd.underlying5 (by kernel_rfl) (by kernel_rfl) h
  refine ⟨shN xs 8, sh_lt64 (byt_of_wf hwf), ?_⟩
  rw [e]
  conv => lhs; rw [← eig_sh hl (byt_of_wf hwf), eigL_bt]
  rfl

theorem req_cells (h : DataW.trod enc Tryd.prog W 0 (fun _ => true) true fuel 39 cs = some x) : ∃ c q : Int, Wf c ∧ Wf q ∧ cs = [.int .i64 c, .int .i64 q] := by
  obtain ⟨xs, k, _, _, hlen, hxl, hff⟩ := DataW.trod_struct Tryd.underlying39 h
  have i1 : Tryd.prog.cellsOf 3 = 1 := by kernel_rfl
  have q2 : Tryd.prog.cellsOf 39 = 2 := by kernel_rfl
  have g0 : DataW.trod enc Tryd.prog W 0 (fun _ => true) true k 3 (List.take (Tryd.prog.cellsOf 3) (List.drop 0 cs)) = xs[0]? := hff 0 _ rfl
  have g1 : DataW.trod enc Tryd.prog W 0 (fun _ => true) true k 3 (List.take (Tryd.prog.cellsOf 3) (List.drop 1 cs)) = xs[1]? := hff 1 _ rfl
  rw [i1] at g0 g1
  rw [q2] at hlen
  clear hff h
  have hxl2 : xs.length = 2 := hxl
  match cs, hlen, xs, hxl2 with
  | [v0, v1], _, [y0, y1], _ =>
    simp at g0 g1
    obtain ⟨z0, e0, r0⟩ := DataW.trod_int Tryd.underlying3 g0
    obtain ⟨z1, e1, r1⟩ := DataW.trod_int Tryd.underlying3 g1
    simp at e0 e1
    subst e0 e1
    exact ⟨z0, z1, r0.2, r1.2, rfl⟩

/-- A record that was handed in. -/
def Rc.fit (r : Rc) : Prop := r.k < 18446744073709551616 ∧ Wf r.ix ∧ Wf r.ep ∧ Wf r.v ∧ Wf r.c ∧ Wf r.q

theorem rec_cells (h : DataW.trod enc Tryd.prog W 0 (fun _ => true) true fuel 41 cs = some x) : ∃ r : Rc, r.fit ∧ cs = [.int .i64 r.ix, .int .i64 r.ep, .int .u8 (bt r.k 0), .int .u8 (bt r.k 1), .int .u8 (bt r.k 2), .int .u8 (bt r.k 3), .int .u8 (bt r.k 4), .int .u8 (bt r.k 5), .int .u8 (bt r.k 6), .int .u8 (bt r.k 7), .int .i64 r.v, .string r.s, .int .i64 r.c, .int .i64 r.q] := by
  obtain ⟨xs, k, _, _, hlen, hxl, hff⟩ := DataW.trod_struct Tryd.underlying41 h
  have i1 : Tryd.prog.cellsOf 3 = 1 := by kernel_rfl
  have s1 : Tryd.prog.cellsOf 9 = 1 := by kernel_rfl
  have k8 : Tryd.prog.cellsOf 37 = 8 := by kernel_rfl
  have q2 : Tryd.prog.cellsOf 39 = 2 := by kernel_rfl
  have x14 : Tryd.prog.cellsOf 41 = 14 := by kernel_rfl
  have g0 : DataW.trod enc Tryd.prog W 0 (fun _ => true) true k 3 (List.take (Tryd.prog.cellsOf 3) (List.drop 0 cs)) = xs[0]? := hff 0 _ rfl
  have g1 : DataW.trod enc Tryd.prog W 0 (fun _ => true) true k 3 (List.take (Tryd.prog.cellsOf 3) (List.drop 1 cs)) = xs[1]? := hff 1 _ rfl
  have g2 : DataW.trod enc Tryd.prog W 0 (fun _ => true) true k 37 (List.take (Tryd.prog.cellsOf 37) (List.drop 2 cs)) = xs[2]? := hff 2 _ rfl
  have g3 : DataW.trod enc Tryd.prog W 0 (fun _ => true) true k 3 (List.take (Tryd.prog.cellsOf 3) (List.drop 10 cs)) = xs[3]? := hff 3 _ rfl
  have g4 : DataW.trod enc Tryd.prog W 0 (fun _ => true) true k 9 (List.take (Tryd.prog.cellsOf 9) (List.drop 11 cs)) = xs[4]? := hff 4 _ rfl
  have g5 : DataW.trod enc Tryd.prog W 0 (fun _ => true) true k 39 (List.take (Tryd.prog.cellsOf 39) (List.drop 12 cs)) = xs[5]? := hff 5 _ rfl
  rw [i1] at g0 g1 g3
  rw [k8] at g2
  rw [s1] at g4
  rw [q2] at g5
  rw [x14] at hlen
  clear hff h
  have hxl2 : xs.length = 6 := hxl
  match cs, hlen, xs, hxl2 with
  | [v0, v1, v2, v3, v4, v5, v6, v7, v8, v9, v10, v11, v12, v13], _, [y0, y1, y2, y3, y4, y5], _ =>
    simp at g0 g1 g2 g3 g4 g5
    obtain ⟨z0, e0, r0⟩ := DataW.trod_int Tryd.underlying3 g0
    obtain ⟨z1, e1, r1⟩ := DataW.trod_int Tryd.underlying3 g1
    obtain ⟨z2, r2, e2⟩ := key_cells g2
    obtain ⟨z3, e3, r3⟩ := DataW.trod_int Tryd.underlying3 g3
    obtain ⟨z4, e4, _⟩ := DataW.trod_string Tryd.underlying9 g4
    obtain ⟨z5, z6, r5, r6, e5⟩ := req_cells g5
    simp at e0 e1 e3 e4
    simp only [List.cons.injEq, and_true] at e2 e5
    obtain ⟨rfl, rfl, rfl, rfl, rfl, rfl, rfl, rfl⟩ := e2
    obtain ⟨rfl, rfl⟩ := e5
    subst e0 e1 e3 e4
    exact ⟨⟨z0, z1, z2, z3, z4, z5, z6⟩, ⟨r2, r0.2, r1.2, r3.2, r5, r6⟩, rfl⟩

/-- A call that was handed in. -/
def Dv.fit (d : Dv) : Prop := d.k < 18446744073709551616 ∧ Wf d.op ∧ Wf d.ep ∧ Wf d.i ∧ Wf d.c ∧ Wf d.q ∧ d.x.fit

theorem dv_cells (h : DataW.trod enc Tryd.prog W 0 (fun _ => true) true fuel 43 cs = some x) : ∃ d : Dv, d.fit ∧ cs = [.int .i64 d.op, .int .i64 d.ep, .int .i64 d.i, .bool d.nr, .int .u8 (bt d.k 0), .int .u8 (bt d.k 1), .int .u8 (bt d.k 2), .int .u8 (bt d.k 3), .int .u8 (bt d.k 4), .int .u8 (bt d.k 5), .int .u8 (bt d.k 6), .int .u8 (bt d.k 7), .string d.s, .int .i64 d.c, .int .i64 d.q, .int .i64 d.x.ix, .int .i64 d.x.ep, .int .u8 (bt d.x.k 0), .int .u8 (bt d.x.k 1), .int .u8 (bt d.x.k 2), .int .u8 (bt d.x.k 3), .int .u8 (bt d.x.k 4), .int .u8 (bt d.x.k 5), .int .u8 (bt d.x.k 6), .int .u8 (bt d.x.k 7), .int .i64 d.x.v, .string d.x.s, .int .i64 d.x.c, .int .i64 d.x.q] := by
  obtain ⟨xs, k, _, _, hlen, hxl, hff⟩ := DataW.trod_struct Tryd.underlying43 h
  have i1 : Tryd.prog.cellsOf 3 = 1 := by kernel_rfl
  have s1 : Tryd.prog.cellsOf 9 = 1 := by kernel_rfl
  have k8 : Tryd.prog.cellsOf 37 = 8 := by kernel_rfl
  have q2 : Tryd.prog.cellsOf 39 = 2 := by kernel_rfl
  have x14 : Tryd.prog.cellsOf 41 = 14 := by kernel_rfl
  have b1 : Tryd.prog.cellsOf 4 = 1 := by kernel_rfl
  have d29 : Tryd.prog.cellsOf 43 = 29 := by kernel_rfl
  have g0 : DataW.trod enc Tryd.prog W 0 (fun _ => true) true k 3 (List.take (Tryd.prog.cellsOf 3) (List.drop 0 cs)) = xs[0]? := hff 0 _ rfl
  have g1 : DataW.trod enc Tryd.prog W 0 (fun _ => true) true k 3 (List.take (Tryd.prog.cellsOf 3) (List.drop 1 cs)) = xs[1]? := hff 1 _ rfl
  have g2 : DataW.trod enc Tryd.prog W 0 (fun _ => true) true k 3 (List.take (Tryd.prog.cellsOf 3) (List.drop 2 cs)) = xs[2]? := hff 2 _ rfl
  have g3 : DataW.trod enc Tryd.prog W 0 (fun _ => true) true k 4 (List.take (Tryd.prog.cellsOf 4) (List.drop 3 cs)) = xs[3]? := hff 3 _ rfl
  have g4 : DataW.trod enc Tryd.prog W 0 (fun _ => true) true k 37 (List.take (Tryd.prog.cellsOf 37) (List.drop 4 cs)) = xs[4]? := hff 4 _ rfl
  have g5 : DataW.trod enc Tryd.prog W 0 (fun _ => true) true k 9 (List.take (Tryd.prog.cellsOf 9) (List.drop 12 cs)) = xs[5]? := hff 5 _ rfl
  have g6 : DataW.trod enc Tryd.prog W 0 (fun _ => true) true k 39 (List.take (Tryd.prog.cellsOf 39) (List.drop 13 cs)) = xs[6]? := hff 6 _ rfl
  have g7 : DataW.trod enc Tryd.prog W 0 (fun _ => true) true k 41 (List.take (Tryd.prog.cellsOf 41) (List.drop 15 cs)) = xs[7]? := hff 7 _ rfl
  rw [i1] at g0 g1 g2
  rw [b1] at g3
  rw [k8] at g4
  rw [s1] at g5
  rw [q2] at g6
  rw [x14] at g7
  rw [d29] at hlen
  clear hff h
  have hxl2 : xs.length = 8 := hxl
  match cs, hlen, xs, hxl2 with
  | [v0, v1, v2, v3, v4, v5, v6, v7, v8, v9, v10, v11, v12, v13, v14, v15, v16, v17, v18, v19, v20, v21, v22, v23, v24, v25, v26, v27, v28], _, [y0, y1, y2, y3, y4, y5, y6, y7], _ =>
    simp at g0 g1 g2 g3 g4 g5 g6 g7
    obtain ⟨z0, e0, r0⟩ := DataW.trod_int Tryd.underlying3 g0
    obtain ⟨z1, e1, r1⟩ := DataW.trod_int Tryd.underlying3 g1
    obtain ⟨z2, e2, r2⟩ := DataW.trod_int Tryd.underlying3 g2
    obtain ⟨z3, e3, _⟩ := DataW.trod_bool Tryd.underlying4 g3
    obtain ⟨z4, r4, e4⟩ := key_cells g4
    obtain ⟨z5, e5, _⟩ := DataW.trod_string Tryd.underlying9 g5
    obtain ⟨z6, z7, r6, r7, e6⟩ := req_cells g6
    obtain ⟨z8, r8, e8⟩ := rec_cells g7
    simp at e0 e1 e2 e3 e5
    simp only [List.cons.injEq, and_true] at e4 e6 e8
    obtain ⟨rfl, rfl, rfl, rfl, rfl, rfl, rfl, rfl⟩ := e4
    obtain ⟨rfl, rfl⟩ := e6
    obtain ⟨rfl, rfl, rfl, rfl, rfl, rfl, rfl, rfl, rfl, rfl, rfl, rfl, rfl, rfl⟩ := e8
    subst e0 e1 e2 e3 e5
    exact ⟨⟨z0, z1, z2, z3, z4, z5, z6, z7, z8⟩, ⟨r4, r0.2, r1.2, r2.2, r6, r7, r8⟩, rfl⟩
end

theorem open_dv {H : Type} {enc : TypeId × Value → H} {W : World} {v : Value} {d : DataW H} {p : List MemPlace}
    (h : DataW.Trod enc Tryd.prog W 0 (fun _ => true) true 43 v d p) : ∃ z : Dv, v = .agg #[.int .i64 z.op, .int .i64 z.ep, .int .i64 z.i, .bool z.nr, .int .u8 (bt z.k 0), .int .u8 (bt z.k 1), .int .u8 (bt z.k 2), .int .u8 (bt z.k 3), .int .u8 (bt z.k 4), .int .u8 (bt z.k 5), .int .u8 (bt z.k 6), .int .u8 (bt z.k 7), .string z.s, .int .i64 z.c, .int .i64 z.q, .int .i64 z.x.ix, .int .i64 z.x.ep, .int .u8 (bt z.x.k 0), .int .u8 (bt z.x.k 1), .int .u8 (bt z.x.k 2), .int .u8 (bt z.x.k 3), .int .u8 (bt z.x.k 4), .int .u8 (bt z.x.k 5), .int .u8 (bt z.x.k 6), .int .u8 (bt z.x.k 7), .int .i64 z.x.v, .string z.x.s, .int .i64 z.x.c, .int .i64 z.x.q] ∧ z.fit := by
  obtain ⟨fuel, hf⟩ := h
  obtain ⟨z, hz, e⟩ := dv_cells hf
  refine ⟨z, ?_, hz⟩
  cases v with
  | agg cs =>
    obtain ⟨cs⟩ := cs
    simp only [Value.cells] at e
    rw [e]
  | _ => simp [Value.cells] at e

end Go.Proofs.YtnbgdkdnlfomeabDoor.M
