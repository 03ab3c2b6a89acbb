/-
  Own text: what the form tells of an argument that is a slice of integers, in the words of this seat's contracts.
  Own text: what the form tells of an argument that is a chain.
  Own text: what the form tells of arguments that are calls of the statements over ledgers, and lists of them.
-/
import Derived.Test.YtcnkpgbmegppbaaMem
import Derived.Test.YtcnkpgbmegppbaaPure
import Derived.OpenShut
import Derived.ChangeOld
import Derived.Test.YtcnkpgbmegppbaaYBase
import Derived.Deep.Slices
import Derived.SizedLaws
import Derived.Test.YtcnkpgbmegppbaaJBig
namespace Go.Proofs.Ytcnkpgbmegppbaa.M
open Go.ChangeShapes Go.WideShapes Go.ChangeAt Go.RowKit

/-- A slice of integers that came in can be read, and each of its numbers fits its kind. -/
theorem open_rd {H : Type} {enc : TypeId × Value → H} {P : Program} {t e : TypeId} {k : IntKind} (ht : P.underlying t = some (.slice e)) (he : P.underlying e = some (.int k)) (hc : P.cellsOf e = 1) {W : World} {a : Option Addr} {len cap : Nat} {d : DataW H} {p : List MemPlace}
    (h : DataW.Trod enc P W 0 (fun _ => true) true t (.slice a len cap) d p) : ∃ xs, Rd k W a len cap xs ∧ ∀ x ∈ xs, (Lit.int k x).wf = true := by
  obtain ⟨fuel, hf⟩ := h
  rcases open_ints ht he hc hf with ⟨hcs, _⟩ | ⟨x, l, c, zs, hcs, _, hl, hm, hz, _, hcell, hwz⟩
  · simp [Value.cells] at hcs
    obtain ⟨rfl, rfl, rfl⟩ := hcs
    exact ⟨[], Rd.empty _ _ _ _ (fun _ => rfl), fun x hx => by cases hx⟩
  · simp [Value.cells] at hcs
    obtain ⟨rfl, rfl, rfl⟩ := hcs
    have hz' : zs.length = cap := by simpa using hz
    refine ⟨zs.take len, ⟨by simp; omega, hl, (fun h => by cases h), fun hn => ?_⟩, fun y hy => hwz y (List.mem_of_mem_take hy)⟩
    obtain ⟨b, o, spot⟩ := x
    have h0 := hcell 0 (by omega)
    have hspot : spot = none := by simpa [Addr.add] using World.cell?_spot h0
    subst hspot
    refine ⟨b, o, rfl, fun i hi => ?_⟩
    have hi' := hcell i (by omega)
    rw [Addr.add_lit] at hi'
    rw [hi', List.getD_eq_getElem?_getD, List.getD_eq_getElem?_getD, List.getElem?_take, if_pos hi]

theorem wf_bounds {k : IntKind} {x : Int} (h : (Lit.int k x).wf = true) : k.min ≤ x ∧ x ≤ k.max := by
  simp only [Lit.wf, Bool.and_eq_true, decide_eq_true_eq] at h
  exact h

theorem by_of_wf {xs : List Int} (h : ∀ x ∈ xs, (Lit.int .u8 x).wf = true) : By xs := fun x hx => by
  have h1 := wf_bounds (h x hx)
  have h2 : IntKind.u8.min = 0 := rfl
  have h3 : IntKind.u8.max = 255 := rfl
  omega

theorem wd_of_wf {xs : List Int} (h : ∀ x ∈ xs, (Lit.int .u64 x).wf = true) : Wd xs := fun x hx => by
  have h1 := wf_bounds (h x hx)
  have h2 : IntKind.u64.min = 0 := rfl
  have h3 : IntKind.u64.max = 18446744073709551615 := rfl
  omega

theorem i64_bounds {x : Int} (h : (Lit.int .i64 x).wf = true) : -9223372036854775808 ≤ x ∧ x ≤ 9223372036854775807 := by
  have h1 := wf_bounds h
  have h2 : IntKind.i64.min = -9223372036854775808 := rfl
  have h3 : IntKind.i64.max = 9223372036854775807 := rfl
  omega

theorem u64_bounds {x : Int} (h : (Lit.int .u64 x).wf = true) : 0 ≤ x ∧ x ≤ 18446744073709551615 := by
  have h1 := wf_bounds h
  have h2 : IntKind.u64.min = 0 := rfl
  have h3 : IntKind.u64.max = 18446744073709551615 := rfl
  omega

end Go.Proofs.Ytcnkpgbmegppbaa.M

namespace Go.Proofs.Ytcnkpgbmegppbaa.M
open Go.ChangeShapes Go.WideShapes Go.ChangeAt Go.RowKit
set_option maxRecDepth 20000

theorem sl_cell {H : Type} {enc : TypeId × Value → H} {P : Program} {t e : TypeId} {W : World} {fuel : Nat} {v : Value} {x : DataW H × List MemPlace} (ht : P.underlying t = some (.slice e)) (h : DataW.trod enc P W 0 (fun _ => true) true fuel t [v] = some x) : ∃ a l c, v = .slice a l c := by
  rcases Deep.open_slice ht h with ⟨hcs, _⟩ | ⟨a, l, c, m, n, D, Pl, hcs, _⟩
  · injection hcs with hcs
    exact ⟨_, _, _, hcs⟩
  · injection hcs with hcs
    exact ⟨_, _, _, hcs⟩

theorem open_mbs {H : Type} {enc : TypeId × Value → H} {W : World} {a : Option Addr} {len cap : Nat} {x : DataW H × List MemPlace} {fuel : Nat}
    (hf : DataW.trod enc Try.prog W 0 (fun _ => true) true fuel 34 [.slice a len cap] = some x) : ∃ fs, RdM W a len cap fs ∧ (∀ f ∈ fs, f.ok) ∧ (len = 0 ∨ ∃ es sp, x.1 = .slice es sp ∧ es.length = len) := by
  have hce : Try.prog.cellsOf 48 = 3 := by kernel_rfl
  have i1 : Try.prog.cellsOf 3 = 1 := by kernel_rfl
  have b1 : Try.prog.cellsOf 4 = 1 := by kernel_rfl
  rcases Deep.open_slice Try.underlying34 hf with ⟨hcs, _⟩ | ⟨ad, l, c, m, n, D, Pl, hcs, _, hl, hm, hmm, hxe, hx⟩
  · injection hcs with hcs
    injection hcs with e1 e2 e3
    subst e1 e2 e3
    exact ⟨[], ⟨rfl, Nat.le_refl _, fun _ => rfl, fun h => absurd h (Nat.lt_irrefl _)⟩, (fun x hx => by cases hx), Or.inl rfl⟩
  · injection hcs with hcs
    injection hcs with e1 e2 e3
    subst e1 e2 e3
    simp only [if_true] at hmm
    subst hmm
    have each : ∀ i, i < m → ∃ f : Mb, W.cell? (ad.add (i * 3)) = some (.int .i64 f.n) ∧ W.cell? (ad.add (i * 3 + 1)) = some (.int .i64 f.s) ∧ W.cell? (ad.add (i * 3 + 2)) = some (.bool f.f) ∧ f.ok := by
      intro i hi
      obtain ⟨cs', h1, h2⟩ := hx i hi
      rw [hce] at h1
      obtain ⟨_, hlen, hcell⟩ := World.cells?_some h1
      obtain ⟨xs, k, hk, hxy, _, hxl, hff⟩ := DataW.trod_struct Try.underlying48 h2
      have hxl3 : xs.length = 3 := hxl
      have g0 : DataW.trod enc Try.prog W 0 (fun _ => true) true k 3 (List.take (Try.prog.cellsOf 3) (List.drop 0 cs')) = xs[0]? := hff 0 _ rfl
      have g1 : DataW.trod enc Try.prog W 0 (fun _ => true) true k 3 (List.take (Try.prog.cellsOf 3) (List.drop 1 cs')) = xs[1]? := hff 1 _ rfl
      have g2 : DataW.trod enc Try.prog W 0 (fun _ => true) true k 4 (List.take (Try.prog.cellsOf 4) (List.drop 2 cs')) = xs[2]? := hff 2 _ rfl
      rw [i1] at g0 g1
      rw [b1] at g2
      match xs, hxl3, cs', hlen with
      | [y0, y1, y2], _, [v0, v1, v2], _ =>
        simp at g0 g1 g2
        obtain ⟨z0, e0, _, w0⟩ := DataW.trod_int Try.underlying3 g0
        obtain ⟨z1, e1, _, w1⟩ := DataW.trod_int Try.underlying3 g1
        obtain ⟨z2, e2, _⟩ := DataW.trod_bool Try.underlying4 g2
        simp at e0 e1 e2
        subst e0 e1 e2
        have q0 := hcell 0 (by omega)
        have q1 := hcell 1 (by omega)
        have q2 := hcell 2 (by omega)
        rw [Deep.add_add] at q0 q1 q2
        exact ⟨⟨z0, z1, z2⟩, by simpa using q0, by simpa using q1, by simpa using q2, i64_bounds w0, i64_bounds w1⟩
    obtain ⟨f, hfv⟩ := @Deep.choose_lt Mb ⟨.z0⟩ _ _ each
    refine ⟨(List.range len).map f, ⟨by simp, hl, (fun h => by cases h), fun hn => ?_⟩, fun g hg => ?_, Or.inr ?_⟩
    · obtain ⟨b, o, spot⟩ := ad
      have h0 := (hfv 0 (by omega)).1
      have hspot : spot = none := by simpa [Addr.add] using World.cell?_spot h0
      subst hspot
      refine ⟨b, o, rfl, fun i hi => ?_⟩
      obtain ⟨k0, k1, k2, _⟩ := hfv i (by omega)
      rw [Addr.add_lit] at k0 k1 k2
      have e : ((List.range len).map f).getD i .z0 = f i := by rw [List.getD_eq_getElem?_getD, List.getElem?_map, List.getElem?_range hi]; rfl
      rw [e]
      exact ⟨k0, by rw [Nat.add_assoc]; exact k1, by rw [Nat.add_assoc]; exact k2⟩
    · obtain ⟨i, hi, rfl⟩ := List.mem_map.1 hg
      exact (hfv i (by have := List.mem_range.1 hi; omega)).2.2.2
    · rw [hxe]
      exact ⟨_, _, rfl, by simp⟩

/-- A chain that came in. -/
theorem open_chain {H : Type} {enc : TypeId × Value → H} {W : World} {v : Value} {d : DataW H} {p : List MemPlace}
    (h : DataW.Trod enc Try.prog W 0 (fun _ => true) true 42 v d p) : ∃ e q n c ms, v = .agg #[.int .i64 e, .slice q n c] ∧ RdM W q n c ms ∧ (∀ m ∈ ms, m.ok) ∧ (-9223372036854775808 ≤ e ∧ e ≤ 9223372036854775807) ∧ (n = 0 ∨ ∃ d0 es sp, d = .agg [d0, .slice es sp] ∧ es.length = n) := by
  obtain ⟨fuel, hf⟩ := h
  obtain ⟨xs, k, _, hxd, hlen, hxl, hff⟩ := DataW.trod_struct Try.underlying42 hf
  have h2 : Try.prog.cellsOf 42 = 2 := by kernel_rfl
  have i1 : Try.prog.cellsOf 3 = 1 := by kernel_rfl
  have b1 : Try.prog.cellsOf 34 = 1 := by kernel_rfl
  rw [h2] at hlen
  have g0 : DataW.trod enc Try.prog W 0 (fun _ => true) true k 3 (List.take (Try.prog.cellsOf 3) (List.drop 0 v.cells.toList)) = xs[0]? := hff 0 _ rfl
  have g1 : DataW.trod enc Try.prog W 0 (fun _ => true) true k 34 (List.take (Try.prog.cellsOf 34) (List.drop 1 v.cells.toList)) = xs[1]? := hff 1 _ rfl
  rw [i1] at g0
  rw [b1] at g1
  clear hff hf
  cases v with
  | agg cs =>
    obtain ⟨cs⟩ := cs
    have hxl2 : xs.length = 2 := hxl
    match cs, hlen, xs, hxl2, hxd with
    | [v0, v1], _, [y0, y1], _, hxd =>
      simp [Value.cells] at g0 g1
      obtain ⟨z0, e0, _, w0⟩ := DataW.trod_int Try.underlying3 g0
      obtain ⟨a, l, c, e1⟩ := sl_cell Try.underlying34 g1
      simp at e0
      subst e0 e1
      obtain ⟨fs, hr, hok, hsz⟩ := open_mbs g1
      refine ⟨_, _, _, _, fs, rfl, hr, hok, i64_bounds w0, ?_⟩
      rcases hsz with h | ⟨es, sp, h, hl⟩
      · exact Or.inl h
      · refine Or.inr ⟨y0.1, es, sp, ?_, hl⟩
        have := congrArg Prod.fst hxd
        simp only [List.map_cons, List.map_nil] at this
        rw [this, h]
  | _ => simp [Value.cells] at hlen

/-- .. has not too many members. -/
theorem chain_sized {H : Type} {ts : List TypeId} {ds : List (DataW H)} (hsz : (DataW.weightsEach Try.prog ts ds).all (· ≤ reachBytes) = true) {j : Nat} {d : DataW H} {n : Nat} (ht : ts[j]? = some 42) (hd : ds[j]? = some d) (h : n = 0 ∨ ∃ d0 es sp, d = .agg [d0, .slice es sp] ∧ es.length = n) : n ≤ 5864062014805 := by
  rcases h with rfl | ⟨d0, es, sp, rfl, rfl⟩
  · exact Nat.zero_le _
  · have hb : Try.prog.bytesOf 48 = 24 := by kernel_rfl
    have hm : (es.length + sp.length) * 24 ∈ DataW.weights Try.prog 42 (.agg [d0, .slice es sp]) := by
      simp only [DataW.weights, Try.underlying42, DataW.weightsEach, List.map_cons, List.map_nil, Try.underlying34, hb]
      simp
    have := List.all_eq_true.1 hsz _ (DataW.weights_mem_each ht hd _ hm)
    have hr : reachBytes = 140737488351232 := by decide
    simp only [decide_eq_true_eq, hr] at this
    omega

end Go.Proofs.Ytcnkpgbmegppbaa.M

namespace Go.Proofs.Ytcnkpgbmegppbaa.M
open Go.ChangeShapes Go.WideShapes Go.ChangeAt Go.RowKit
set_option maxRecDepth 20000

/-- Eight cells that were read as a call. -/
theorem eight_do {H : Type} {enc : TypeId × Value → H} {W : World} {fuel : Nat} {cs : List Value} {x : DataW H × List MemPlace} (hlen : cs.length = 8)
    (h : DataW.trod enc Try.prog W 0 (fun _ => true) true fuel 57 cs = some x) : ∃ z : Dj, cs = [.int .i64 z.k, .int .i64 z.n, .int .i64 z.s, .int .i64 z.e, .slice z.bq z.bl z.bc, .bool z.raw, .int .i64 z.by_, .int .i64 z.off] ∧ z.rd W := by
  obtain ⟨xs, k, _, _, _, hxl, hff⟩ := DataW.trod_struct Try.underlying57 h
  have i1 : Try.prog.cellsOf 3 = 1 := by kernel_rfl
  have b1 : Try.prog.cellsOf 24 = 1 := by kernel_rfl
  have o1 : Try.prog.cellsOf 4 = 1 := by kernel_rfl
  have m4 : Try.prog.cellsOf 23 = 4 := by kernel_rfl
  have g0 : DataW.trod enc Try.prog W 0 (fun _ => true) true k 23 (List.take (Try.prog.cellsOf 23) (List.drop 0 cs)) = xs[0]? := hff 0 _ rfl
  have g1 : DataW.trod enc Try.prog W 0 (fun _ => true) true k 24 (List.take (Try.prog.cellsOf 24) (List.drop 4 cs)) = xs[1]? := hff 1 _ rfl
  have g2 : DataW.trod enc Try.prog W 0 (fun _ => true) true k 4 (List.take (Try.prog.cellsOf 4) (List.drop 5 cs)) = xs[2]? := hff 2 _ rfl
  have g3 : DataW.trod enc Try.prog W 0 (fun _ => true) true k 3 (List.take (Try.prog.cellsOf 3) (List.drop 6 cs)) = xs[3]? := hff 3 _ rfl
  have g4 : DataW.trod enc Try.prog W 0 (fun _ => true) true k 3 (List.take (Try.prog.cellsOf 3) (List.drop 7 cs)) = xs[4]? := hff 4 _ rfl
  rw [i1] at g3 g4
  rw [b1] at g1
  rw [o1] at g2
  rw [m4] at g0
  clear hff h
  have hxl5 : xs.length = 5 := hxl
  match cs, hlen, xs, hxl5 with
  | [v0, v1, v2, v3, v4, v5, v6, v7], _, [y0, y1, y2, y3, y4], _ =>
    simp at g0 g1 g2 g3 g4
    obtain ⟨us, kk, _, _, _, hul, huf⟩ := DataW.trod_struct Try.underlying23 g0
    have f0 : DataW.trod enc Try.prog W 0 (fun _ => true) true kk 3 (List.take (Try.prog.cellsOf 3) (List.drop 0 [v0, v1, v2, v3])) = us[0]? := huf 0 _ rfl
    have f1 : DataW.trod enc Try.prog W 0 (fun _ => true) true kk 3 (List.take (Try.prog.cellsOf 3) (List.drop 1 [v0, v1, v2, v3])) = us[1]? := huf 1 _ rfl
    have f2 : DataW.trod enc Try.prog W 0 (fun _ => true) true kk 3 (List.take (Try.prog.cellsOf 3) (List.drop 2 [v0, v1, v2, v3])) = us[2]? := huf 2 _ rfl
    have f3 : DataW.trod enc Try.prog W 0 (fun _ => true) true kk 3 (List.take (Try.prog.cellsOf 3) (List.drop 3 [v0, v1, v2, v3])) = us[3]? := huf 3 _ rfl
    rw [i1] at f0 f1 f2 f3
    have hul4 : us.length = 4 := hul
    match us, hul4 with
    | [u0, u1, u2, u3], _ =>
      simp at f0 f1 f2 f3
      obtain ⟨z0, e0, _⟩ := DataW.trod_int Try.underlying3 f0
      obtain ⟨z1, e1, _⟩ := DataW.trod_int Try.underlying3 f1
      obtain ⟨z2, e2, _⟩ := DataW.trod_int Try.underlying3 f2
      obtain ⟨z3, e3, _⟩ := DataW.trod_int Try.underlying3 f3
      obtain ⟨a4, l4, c4, e4⟩ := sl_cell Try.underlying24 g1
      obtain ⟨z5, e5, _⟩ := DataW.trod_bool Try.underlying4 g2
      obtain ⟨z6, e6, _⟩ := DataW.trod_int Try.underlying3 g3
      obtain ⟨z7, e7, _⟩ := DataW.trod_int Try.underlying3 g4
      simp at e0 e1 e2 e3 e5 e6 e7
      subst e0 e1 e2 e3 e4 e5 e6 e7
      obtain ⟨xb, rb, wb⟩ := open_rd (d := y1.1) (p := y1.2) Try.underlying24 Try.underlying5 (by kernel_rfl) ⟨k, g1⟩
      exact ⟨⟨z0, z1, z2, z3, a4, l4, c4, z5, z6, z7, xb⟩, rfl, rb, by_of_wf wb⟩

theorem open_dj {H : Type} {enc : TypeId × Value → H} {W : World} {v : Value} {d : DataW H} {p : List MemPlace}
    (h : DataW.Trod enc Try.prog W 0 (fun _ => true) true 57 v d p) : ∃ z : Dj, v = .agg #[.int .i64 z.k, .int .i64 z.n, .int .i64 z.s, .int .i64 z.e, .slice z.bq z.bl z.bc, .bool z.raw, .int .i64 z.by_, .int .i64 z.off] ∧ z.rd W := by
  obtain ⟨fuel, hf⟩ := h
  obtain ⟨xs, k, _, _, hlen, hxl, hff⟩ := DataW.trod_struct Try.underlying57 hf
  have h8 : Try.prog.cellsOf 57 = 8 := by kernel_rfl
  rw [h8] at hlen
  obtain ⟨z, e, hr⟩ := eight_do hlen hf
  refine ⟨z, ?_, hr⟩
  cases v with
  | agg cs =>
    obtain ⟨cs⟩ := cs
    simp only [Value.cells] at e
    rw [e]
  | _ => simp [Value.cells] at hlen

theorem open_djs {H : Type} {enc : TypeId × Value → H} {W : World} {a : Option Addr} {len cap : Nat} {d : DataW H} {pl : List MemPlace}
    (h : DataW.Trod enc Try.prog W 0 (fun _ => true) true 35 (.slice a len cap) d pl) : ∃ ls, RdJ W a len cap ls := by
  obtain ⟨fuel, hf⟩ := h
  have hce : Try.prog.cellsOf 57 = 8 := by kernel_rfl
  rcases Deep.open_slice Try.underlying35 hf with ⟨hcs, _⟩ | ⟨ad, l, c, m, n, D, Pl, hcs, _, hl, hm, hmm, hxe, hx⟩
  · injection hcs with hcs
    injection hcs with e1 e2 e3
    subst e1 e2 e3
    exact ⟨[], rfl, fun h => absurd h (Nat.lt_irrefl _), fun j hj => absurd hj (Nat.not_lt_zero _)⟩
  · injection hcs with hcs
    injection hcs with e1 e2 e3
    subst e1 e2 e3
    simp only [if_true] at hmm
    subst hmm
    have each : ∀ i, i < m → ∃ z : Dj, W.cell? (ad.add (i * 8)) = some (.int .i64 z.k) ∧ W.cell? (ad.add (i * 8 + 1)) = some (.int .i64 z.n) ∧ W.cell? (ad.add (i * 8 + 2)) = some (.int .i64 z.s) ∧ W.cell? (ad.add (i * 8 + 3)) = some (.int .i64 z.e) ∧ W.cell? (ad.add (i * 8 + 4)) = some (.slice z.bq z.bl z.bc) ∧ W.cell? (ad.add (i * 8 + 5)) = some (.bool z.raw) ∧ W.cell? (ad.add (i * 8 + 6)) = some (.int .i64 z.by_) ∧ W.cell? (ad.add (i * 8 + 7)) = some (.int .i64 z.off) ∧ z.rd W := by
      intro i hi
      obtain ⟨cs', h1, h2⟩ := hx i hi
      rw [hce] at h1
      obtain ⟨_, hlen, hcell⟩ := World.cells?_some h1
      obtain ⟨z, e, hr⟩ := eight_do hlen h2
      subst e
      have q0 := hcell 0 (by omega)
      have q1 := hcell 1 (by omega)
      have q2 := hcell 2 (by omega)
      have q3 := hcell 3 (by omega)
      have q4 := hcell 4 (by omega)
      have q5 := hcell 5 (by omega)
      have q6 := hcell 6 (by omega)
      have q7 := hcell 7 (by omega)
      rw [Deep.add_add] at q0 q1 q2 q3 q4 q5 q6 q7
      exact ⟨z, by simpa using q0, by simpa using q1, by simpa using q2, by simpa using q3, by simpa using q4, by simpa using q5, by simpa using q6, by simpa using q7, hr⟩
    obtain ⟨f, hfv⟩ := @Deep.choose_lt Dj ⟨.z0⟩ _ _ each
    have e : ∀ i, i < len → ((List.range len).map f).getD i .z0 = f i := fun i hi => by rw [List.getD_eq_getElem?_getD, List.getElem?_map, List.getElem?_range hi]; rfl
    refine ⟨(List.range len).map f, by simp, fun hn => ?_, fun j hj => by rw [e j hj]; exact (hfv j (by omega)).2.2.2.2.2.2.2.2⟩
    obtain ⟨b, o, spot⟩ := ad
    have h0 := (hfv 0 (by omega)).1
    have hspot : spot = none := by simpa [Addr.add] using World.cell?_spot h0
    subst hspot
    refine ⟨b, o, rfl, fun i hi => ?_⟩
    obtain ⟨k0, k1, k2, k3, k4, k5, k6, k7, _⟩ := hfv i (by omega)
    rw [Addr.add_lit] at k0 k1 k2 k3 k4 k5 k6 k7
    rw [e i hi]
    exact ⟨k0, by rw [Nat.add_assoc]; exact k1, by rw [Nat.add_assoc]; exact k2, by rw [Nat.add_assoc]; exact k3, by rw [Nat.add_assoc]; exact k4, by rw [Nat.add_assoc]; exact k5, by rw [Nat.add_assoc]; exact k6, by rw [Nat.add_assoc]; exact k7⟩

end Go.Proofs.Ytcnkpgbmegppbaa.M
