/-
  Own text: what the form tells of an argument that is a chain.
-/
import Derived.Test.YtigojnpjpagfjaaDoorYBase
import Derived.Test.YtigojnpjpagfjaaDoorOpen
import Derived.Deep.Slices
import Derived.SizedLaws
namespace Go.Proofs.YtigojnpjpagfjaaDoor.M
open Go.ChangeShapes Go.WideShapes Go.ChangeAt Go.RowKit
set_option maxRecDepth 20000

theorem sl_cell {H : Type} {enc : TypeId × Value → H} {P : Program} {t e : TypeId} {W : World} {fuel : Nat} {v : Value} {x : DataW H × List MemPlace} (ht : P.underlying t = some (.slice e)) (h : DataW.trod enc P W 0 (fun _ => true) true fuel t [v] = some x) : ∃ a l c, v = .slice a l c := by
  rcases Deep.open_slice ht h with ⟨hcs, _⟩ | ⟨a, l, c, m, n, D, Pl, hcs, _⟩
  · injection hcs with hcs
    exact ⟨_, _, _, hcs⟩
  · injection hcs with hcs
    exact ⟨_, _, _, hcs⟩

theorem open_mbs {H : Type} {enc : TypeId × Value → H} {W : World} {a : Option Addr} {len cap : Nat} {x : DataW H × List MemPlace} {fuel : Nat}
    (hf : DataW.trod enc Tryd.prog W 0 (fun _ => true) true fuel 26 [.slice a len cap] = some x) : ∃ fs, RdM W a len cap fs ∧ (∀ f ∈ fs, f.ok) ∧ (len = 0 ∨ ∃ es sp, x.1 = .slice es sp ∧ es.length = len) := by
  have hce : Tryd.prog.cellsOf 45 = 3 := by kernel_rfl
  have i1 : Tryd.prog.cellsOf 3 = 1 := by kernel_rfl
  have b1 : Tryd.prog.cellsOf 4 = 1 := by kernel_rfl
  rcases Deep.open_slice Tryd.underlying26 hf with ⟨hcs, _⟩ | ⟨ad, l, c, m, n, D, Pl, hcs, _, hl, hm, hmm, hxe, hx⟩
  · injection hcs with hcs
    injection hcs with e1 e2 e3
    subst e1 e2 e3
    exact ⟨[], ⟨rfl, Nat.le_refl _, fun _ => rfl, fun h => absurd h (Nat.lt_irrefl _)⟩, (fun x hx => by cases hx), Or.inl rfl⟩
  · injection hcs with hcs
    injection hcs with e1 e2 e3
    subst e1 e2 e3
    simp only [if_true] at hmm
    subst hmm
    have each : ∀ i, i < m → ∃ f : Mb, W.cell? (ad.add (i * 3)) = some (.int .i64 f.n) ∧ W.cell? (ad.add (i * 3 + 1)) = some (.int .i64 f.s) ∧ W.cell? (ad.add (i * 3 + 2)) = some (.bool f.f) ∧ f.ok := by
      intro i hi
      obtain ⟨cs', h1, h2⟩ := hx i hi
      rw [hce] at h1
      obtain ⟨_, hlen, hcell⟩ := World.cells?_some h1
      obtain ⟨xs, k, hk, hxy, _, hxl, hff⟩ := DataW.trod_struct Tryd.underlying45 h2
      have hxl3 : xs.length = 3 := hxl
      have g0 : DataW.trod enc Tryd.prog W 0 (fun _ => true) true k 3 (List.take (Tryd.prog.cellsOf 3) (List.drop 0 cs')) = xs[0]? := hff 0 _ rfl
      have g1 : DataW.trod enc Tryd.prog W 0 (fun _ => true) true k 3 (List.take (Tryd.prog.cellsOf 3) (List.drop 1 cs')) = xs[1]? := hff 1 _ rfl
      have g2 : DataW.trod enc Tryd.prog W 0 (fun _ => true) true k 4 (List.take (Tryd.prog.cellsOf 4) (List.drop 2 cs')) = xs[2]? := hff 2 _ rfl
      rw [i1] at g0 g1
      rw [b1] at g2
      match xs, hxl3, cs', hlen with
      | [y0, y1, y2], _, [v0, v1, v2], _ =>
        simp at g0 g1 g2
        obtain ⟨z0, e0, _, w0⟩ := DataW.trod_int Tryd.underlying3 g0
        obtain ⟨z1, e1, _, w1⟩ := DataW.trod_int Tryd.underlying3 g1
        obtain ⟨z2, e2, _⟩ := DataW.trod_bool Tryd.underlying4 g2
        simp at e0 e1 e2
        subst e0 e1 e2
        have q0 := hcell 0 (by omega)
        have q1 := hcell 1 (by omega)
        have q2 := hcell 2 (by omega)
        rw [Deep.add_add] at q0 q1 q2
        exact ⟨⟨z0, z1, z2⟩, by simpa using q0, by simpa using q1, by simpa using q2, i64_bounds w0, i64_bounds w1⟩
    obtain ⟨f, hfv⟩ := @Deep.choose_lt Mb ⟨.z0⟩ _ _ each
    refine ⟨(List.range len).map f, ⟨by simp, hl, (fun h => by cases h), fun hn => ?_⟩, fun g hg => ?_, Or.inr ?_⟩
    · obtain ⟨b, o, spot⟩ := ad
      have h0 := (hfv 0 (by omega)).1
      have hspot : spot = none := by simpa [Addr.add] using World.cell?_spot h0
      subst hspot
      refine ⟨b, o, rfl, fun i hi => ?_⟩
      obtain ⟨k0, k1, k2, _⟩ := hfv i (by omega)
      rw [Addr.add_lit] at k0 k1 k2
      have e : ((List.range len).map f).getD i .z0 = f i := by rw [List.getD_eq_getElem?_getD, List.getElem?_map, List.getElem?_range hi]; rfl
      rw [e]
      exact ⟨k0, by rw [Nat.add_assoc]; exact k1, by rw [Nat.add_assoc]; exact k2⟩
    · obtain ⟨i, hi, rfl⟩ := List.mem_map.1 hg
      exact (hfv i (by have := List.mem_range.1 hi; omega)).2.2.2
    · rw [hxe]
      exact ⟨_, _, rfl, by simp⟩

/-- A chain that came in. -/
theorem open_chain {H : Type} {enc : TypeId × Value → H} {W : World} {v : Value} {d : DataW H} {p : List MemPlace}
    (h : DataW.Trod enc Tryd.prog W 0 (fun _ => true) true 28 v d p) : ∃ e q n c ms, v = .agg #[.int .i64 e, .slice q n c] ∧ RdM W q n c ms ∧ (∀ m ∈ ms, m.ok) ∧ (-9223372036854775808 ≤ e ∧ e ≤ 9223372036854775807) ∧ (n = 0 ∨ ∃ d0 es sp, d = .agg [d0, .slice es sp] ∧ es.length = n) := by
  obtain ⟨fuel, hf⟩ := h
  obtain ⟨xs, k, _, hxd, hlen, hxl, hff⟩ := DataW.trod_struct Tryd.underlying28 hf
  have h2 : Tryd.prog.cellsOf 28 = 2 := by kernel_rfl
  have i1 : Tryd.prog.cellsOf 3 = 1 := by kernel_rfl
  have b1 : Tryd.prog.cellsOf 26 = 1 := by kernel_rfl
  rw [h2] at hlen
  have g0 : DataW.trod enc Tryd.prog W 0 (fun _ => true) true k 3 (List.take (Tryd.prog.cellsOf 3) (List.drop 0 v.cells.toList)) = xs[0]? := hff 0 _ rfl
  have g1 : DataW.trod enc Tryd.prog W 0 (fun _ => true) true k 26 (List.take (Tryd.prog.cellsOf 26) (List.drop 1 v.cells.toList)) = xs[1]? := hff 1 _ rfl
  rw [i1] at g0
  rw [b1] at g1
  clear hff hf
  cases v with
  | agg cs =>
    obtain ⟨cs⟩ := cs
    have hxl2 : xs.length = 2 := hxl
    match cs, hlen, xs, hxl2, hxd with
    | [v0, v1], _, [y0, y1], _, hxd =>
      simp [Value.cells] at g0 g1
      obtain ⟨z0, e0, _, w0⟩ := DataW.trod_int Tryd.underlying3 g0
      obtain ⟨a, l, c, e1⟩ := sl_cell Tryd.underlying26 g1
      simp at e0
      subst e0 e1
      obtain ⟨fs, hr, hok, hsz⟩ := open_mbs g1
      refine ⟨_, _, _, _, fs, rfl, hr, hok, i64_bounds w0, ?_⟩
      rcases hsz with h | ⟨es, sp, h, hl⟩
      · exact Or.inl h
      · refine Or.inr ⟨y0.1, es, sp, ?_, hl⟩
        have := congrArg Prod.fst hxd
        simp only [List.map_cons, List.map_nil] at this
        rw [this, h]
  | _ => simp [Value.cells] at hlen

/-- .. has not too many members. -/
theorem chain_sized {H : Type} {ts : List TypeId} {ds : List (DataW H)} (hsz : (DataW.weightsEach Tryd.prog ts ds).all (· ≤ reachBytes) = true) {j : Nat} {d : DataW H} {n : Nat} (ht : ts[j]? = some 28) (hd : ds[j]? = some d) (h : n = 0 ∨ ∃ d0 es sp, d = .agg [d0, .slice es sp] ∧ es.length = n) : n ≤ 5864062014805 := by
  rcases h with rfl | ⟨d0, es, sp, rfl, rfl⟩
  · exact Nat.zero_le _
  · have hb : Tryd.prog.bytesOf 45 = 24 := by kernel_rfl
    have hm : (es.length + sp.length) * 24 ∈ DataW.weights Tryd.prog 28 (.agg [d0, .slice es sp]) := by
      simp only [DataW.weights, Tryd.underlying28, DataW.weightsEach, List.map_cons, List.map_nil, Tryd.underlying26, hb]
      simp
    have := List.all_eq_true.1 hsz _ (DataW.weights_mem_each ht hd _ hm)
    have hr : reachBytes = 140737488351232 := by decide
    simp only [decide_eq_true_eq, hr] at this
    omega

end Go.Proofs.YtigojnpjpagfjaaDoor.M
