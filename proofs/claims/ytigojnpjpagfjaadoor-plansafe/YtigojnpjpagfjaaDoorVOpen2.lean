/-
  Own text: what the form tells of an argument that is a slice of integers, in the words of this seat's contracts.
  Own text: what the form tells of an argument that is a chain.
  Own text: what the form tells of homes and wishes that came in.
  Own text: the library's table, as the rows list it, lies in the first block.
-/
import Derived.Test.YtigojnpjpagfjaaDoorMem
import Derived.Test.YtigojnpjpagfjaaDoorPure
import Derived.OpenShut
import Derived.ChangeOld
import Derived.Test.YtigojnpjpagfjaaDoorYBase
import Derived.Deep.Slices
import Derived.SizedLaws
import Derived.Test.YtigojnpjpagfjaaDoorVMask
import Derived.WideKeyPair
import Derived.Deep.DeepHandedRow
import Derived.Lib.LaidTab
namespace Go.Proofs.YtigojnpjpagfjaaDoor.M
open Go.ChangeShapes Go.WideShapes Go.ChangeAt Go.RowKit

/-- A slice of integers that came in can be read, and each of its numbers fits its kind. -/
theorem open_rd {H : Type} {enc : TypeId × Value → H} {P : Program} {t e : TypeId} {k : IntKind} (ht : P.underlying t = some (.slice e)) (he : P.underlying e = some (.int k)) (hc : P.cellsOf e = 1) {W : World} {a : Option Addr} {len cap : Nat} {d : DataW H} {p : List MemPlace}
    (h : DataW.Trod enc P W 0 (fun _ => true) true t (.slice a len cap) d p) : ∃ xs, Rd k W a len cap xs ∧ ∀ x ∈ xs, (Lit.int k x).wf = true := by
  obtain ⟨fuel, hf⟩ := h
  rcases open_ints ht he hc hf with ⟨hcs, _⟩ | ⟨x, l, c, zs, hcs, _, hl, hm, hz, _, hcell, hwz⟩
  · simp [Value.cells] at hcs
    obtain ⟨rfl, rfl, rfl⟩ := hcs
    exact ⟨[], Rd.empty _ _ _ _ (fun _ => rfl), fun x hx => by cases hx⟩
  · simp [Value.cells] at hcs
    obtain ⟨rfl, rfl, rfl⟩ := hcs
    have hz' : zs.length = cap := by simpa using hz
    refine ⟨zs.take len, ⟨by simp; omega, hl, (fun h => by cases h), fun hn => ?_⟩, fun y hy => hwz y (List.mem_of_mem_take hy)⟩
    obtain ⟨b, o, spot⟩ := x
    have h0 := hcell 0 (by omega)
    have hspot : spot = none := by simpa [Addr.add] using World.cell?_spot h0
    subst hspot
    refine ⟨b, o, rfl, fun i hi => ?_⟩
    have hi' := hcell i (by omega)
    rw [Addr.add_lit] at hi'
    rw [hi', List.getD_eq_getElem?_getD, List.getD_eq_getElem?_getD, List.getElem?_take, if_pos hi]

theorem wf_bounds {k : IntKind} {x : Int} (h : (Lit.int k x).wf = true) : k.min ≤ x ∧ x ≤ k.max := by
  simp only [Lit.wf, Bool.and_eq_true, decide_eq_true_eq] at h
  exact h

theorem by_of_wf {xs : List Int} (h : ∀ x ∈ xs, (Lit.int .u8 x).wf = true) : By xs := fun x hx => by
  have h1 := wf_bounds (h x hx)
  have h2 : IntKind.u8.min = 0 := rfl
  have h3 : IntKind.u8.max = 255 := rfl
  omega

theorem wd_of_wf {xs : List Int} (h : ∀ x ∈ xs, (Lit.int .u64 x).wf = true) : Wd xs := fun x hx => by
  have h1 := wf_bounds (h x hx)
  have h2 : IntKind.u64.min = 0 := rfl
  have h3 : IntKind.u64.max = 18446744073709551615 := rfl
  omega

theorem i64_bounds {x : Int} (h : (Lit.int .i64 x).wf = true) : -9223372036854775808 ≤ x ∧ x ≤ 9223372036854775807 := by
  have h1 := wf_bounds h
  have h2 : IntKind.i64.min = -9223372036854775808 := rfl
  have h3 : IntKind.i64.max = 9223372036854775807 := rfl
  omega

theorem u64_bounds {x : Int} (h : (Lit.int .u64 x).wf = true) : 0 ≤ x ∧ x ≤ 18446744073709551615 := by
  have h1 := wf_bounds h
  have h2 : IntKind.u64.min = 0 := rfl
  have h3 : IntKind.u64.max = 18446744073709551615 := rfl
  omega

end Go.Proofs.YtigojnpjpagfjaaDoor.M

namespace Go.Proofs.YtigojnpjpagfjaaDoor.M
open Go.ChangeShapes Go.WideShapes Go.ChangeAt Go.RowKit
set_option maxRecDepth 20000

theorem sl_cell {H : Type} {enc : TypeId × Value → H} {P : Program} {t e : TypeId} {W : World} {fuel : Nat} {v : Value} {x : DataW H × List MemPlace} (ht : P.underlying t = some (.slice e)) (h : DataW.trod enc P W 0 (fun _ => true) true fuel t [v] = some x) : ∃ a l c, v = .slice a l c := by
  rcases Deep.open_slice ht h with ⟨hcs, _⟩ | ⟨a, l, c, m, n, D, Pl, hcs, _⟩
  · injection hcs with hcs
    exact ⟨_, _, _, hcs⟩
  · injection hcs with hcs
    exact ⟨_, _, _, hcs⟩

theorem open_mbs {H : Type} {enc : TypeId × Value → H} {W : World} {a : Option Addr} {len cap : Nat} {x : DataW H × List MemPlace} {fuel : Nat}
    (hf : DataW.trod enc Tryd.prog W 0 (fun _ => true) true fuel 26 [.slice a len cap] = some x) : ∃ fs, RdM W a len cap fs ∧ (∀ f ∈ fs, f.ok) ∧ (len = 0 ∨ ∃ es sp, x.1 = .slice es sp ∧ es.length = len) := by
  have hce : Tryd.prog.cellsOf 45 = 3 := by kernel_rfl
  have i1 : Tryd.prog.cellsOf 3 = 1 := by kernel_rfl
  have b1 : Tryd.prog.cellsOf 4 = 1 := by kernel_rfl
  rcases Deep.open_slice Tryd.underlying26 hf with ⟨hcs, _⟩ | ⟨ad, l, c, m, n, D, Pl, hcs, _, hl, hm, hmm, hxe, hx⟩
  · injection hcs with hcs
    injection hcs with e1 e2 e3
    subst e1 e2 e3
    exact ⟨[], ⟨rfl, Nat.le_refl _, fun _ => rfl, fun h => absurd h (Nat.lt_irrefl _)⟩, (fun x hx => by cases hx), Or.inl rfl⟩
  · injection hcs with hcs
    injection hcs with e1 e2 e3
    subst e1 e2 e3
    simp only [if_true] at hmm
    subst hmm
    have each : ∀ i, i < m → ∃ f : Mb, W.cell? (ad.add (i * 3)) = some (.int .i64 f.n) ∧ W.cell? (ad.add (i * 3 + 1)) = some (.int .i64 f.s) ∧ W.cell? (ad.add (i * 3 + 2)) = some (.bool f.f) ∧ f.ok := by
      intro i hi
      obtain ⟨cs', h1, h2⟩ := hx i hi
      rw [hce] at h1
      obtain ⟨_, hlen, hcell⟩ := World.cells?_some h1
      obtain ⟨xs, k, hk, hxy, _, hxl, hff⟩ := DataW.trod_struct Tryd.underlying45 h2
      have hxl3 : xs.length = 3 := hxl
      have g0 : DataW.trod enc Tryd.prog W 0 (fun _ => true) true k 3 (List.take (Tryd.prog.cellsOf 3) (List.drop 0 cs')) = xs[0]? := hff 0 _ rfl
      have g1 : DataW.trod enc Tryd.prog W 0 (fun _ => true) true k 3 (List.take (Tryd.prog.cellsOf 3) (List.drop 1 cs')) = xs[1]? := hff 1 _ rfl
      have g2 : DataW.trod enc Tryd.prog W 0 (fun _ => true) true k 4 (List.take (Tryd.prog.cellsOf 4) (List.drop 2 cs')) = xs[2]? := hff 2 _ rfl
      rw [i1] at g0 g1
      rw [b1] at g2
      match xs, hxl3, cs', hlen with
      | [y0, y1, y2], _, [v0, v1, v2], _ =>
        simp at g0 g1 g2
        obtain ⟨z0, e0, _, w0⟩ := DataW.trod_int Tryd.underlying3 g0
        obtain ⟨z1, e1, _, w1⟩ := DataW.trod_int Tryd.underlying3 g1
        obtain ⟨z2, e2, _⟩ := DataW.trod_bool Tryd.underlying4 g2
        simp at e0 e1 e2
        subst e0 e1 e2
        have q0 := hcell 0 (by omega)
        have q1 := hcell 1 (by omega)
        have q2 := hcell 2 (by omega)
        rw [Deep.add_add] at q0 q1 q2
        exact ⟨⟨z0, z1, z2⟩, by simpa using q0, by simpa using q1, by simpa using q2, i64_bounds w0, i64_bounds w1⟩
    obtain ⟨f, hfv⟩ := @Deep.choose_lt Mb ⟨.z0⟩ _ _ each
    refine ⟨(List.range len).map f, ⟨by simp, hl, (fun h => by cases h), fun hn => ?_⟩, fun g hg => ?_, Or.inr ?_⟩
    · obtain ⟨b, o, spot⟩ := ad
      have h0 := (hfv 0 (by omega)).1
      have hspot : spot = none := by simpa [Addr.add] using World.cell?_spot h0
      subst hspot
      refine ⟨b, o, rfl, fun i hi => ?_⟩
      obtain ⟨k0, k1, k2, _⟩ := hfv i (by omega)
      rw [Addr.add_lit] at k0 k1 k2
      have e : ((List.range len).map f).getD i .z0 = f i := by rw [List.getD_eq_getElem?_getD, List.getElem?_map, List.getElem?_range hi]; rfl
      rw [e]
      exact ⟨k0, by rw [Nat.add_assoc]; exact k1, by rw [Nat.add_assoc]; exact k2⟩
    · obtain ⟨i, hi, rfl⟩ := List.mem_map.1 hg
      exact (hfv i (by have := List.mem_range.1 hi; omega)).2.2.2
    · rw [hxe]
      exact ⟨_, _, rfl, by simp⟩

/-- A chain that came in. -/
theorem open_chain {H : Type} {enc : TypeId × Value → H} {W : World} {v : Value} {d : DataW H} {p : List MemPlace}
    (h : DataW.Trod enc Tryd.prog W 0 (fun _ => true) true 28 v d p) : ∃ e q n c ms, v = .agg #[.int .i64 e, .slice q n c] ∧ RdM W q n c ms ∧ (∀ m ∈ ms, m.ok) ∧ (-9223372036854775808 ≤ e ∧ e ≤ 9223372036854775807) ∧ (n = 0 ∨ ∃ d0 es sp, d = .agg [d0, .slice es sp] ∧ es.length = n) := by
  obtain ⟨fuel, hf⟩ := h
  obtain ⟨xs, k, _, hxd, hlen, hxl, hff⟩ := DataW.trod_struct Tryd.underlying28 hf
  have h2 : Tryd.prog.cellsOf 28 = 2 := by kernel_rfl
  have i1 : Tryd.prog.cellsOf 3 = 1 := by kernel_rfl
  have b1 : Tryd.prog.cellsOf 26 = 1 := by kernel_rfl
  rw [h2] at hlen
  have g0 : DataW.trod enc Tryd.prog W 0 (fun _ => true) true k 3 (List.take (Tryd.prog.cellsOf 3) (List.drop 0 v.cells.toList)) = xs[0]? := hff 0 _ rfl
  have g1 : DataW.trod enc Tryd.prog W 0 (fun _ => true) true k 26 (List.take (Tryd.prog.cellsOf 26) (List.drop 1 v.cells.toList)) = xs[1]? := hff 1 _ rfl
  rw [i1] at g0
  rw [b1] at g1
  clear hff hf
  cases v with
  | agg cs =>
    obtain ⟨cs⟩ := cs
    have hxl2 : xs.length = 2 := hxl
    match cs, hlen, xs, hxl2, hxd with
    | [v0, v1], _, [y0, y1], _, hxd =>
      simp [Value.cells] at g0 g1
      obtain ⟨z0, e0, _, w0⟩ := DataW.trod_int Tryd.underlying3 g0
      obtain ⟨a, l, c, e1⟩ := sl_cell Tryd.underlying26 g1
      simp at e0
      subst e0 e1
      obtain ⟨fs, hr, hok, hsz⟩ := open_mbs g1
      refine ⟨_, _, _, _, fs, rfl, hr, hok, i64_bounds w0, ?_⟩
      rcases hsz with h | ⟨es, sp, h, hl⟩
      · exact Or.inl h
      · refine Or.inr ⟨y0.1, es, sp, ?_, hl⟩
        have := congrArg Prod.fst hxd
        simp only [List.map_cons, List.map_nil] at this
        rw [this, h]
  | _ => simp [Value.cells] at hlen

/-- .. has not too many members. -/
theorem chain_sized {H : Type} {ts : List TypeId} {ds : List (DataW H)} (hsz : (DataW.weightsEach Tryd.prog ts ds).all (· ≤ reachBytes) = true) {j : Nat} {d : DataW H} {n : Nat} (ht : ts[j]? = some 28) (hd : ds[j]? = some d) (h : n = 0 ∨ ∃ d0 es sp, d = .agg [d0, .slice es sp] ∧ es.length = n) : n ≤ 5864062014805 := by
  rcases h with rfl | ⟨d0, es, sp, rfl, rfl⟩
  · exact Nat.zero_le _
  · have hb : Tryd.prog.bytesOf 45 = 24 := by kernel_rfl
    have hm : (es.length + sp.length) * 24 ∈ DataW.weights Tryd.prog 28 (.agg [d0, .slice es sp]) := by
      simp only [DataW.weights, Tryd.underlying28, DataW.weightsEach, List.map_cons, List.map_nil, Tryd.underlying26, hb]
      simp
    have := List.all_eq_true.1 hsz _ (DataW.weights_mem_each ht hd _ hm)
    have hr : reachBytes = 140737488351232 := by decide
    simp only [decide_eq_true_eq, hr] at this
    omega

end Go.Proofs.YtigojnpjpagfjaaDoor.M

namespace Go.Proofs.YtigojnpjpagfjaaDoor.M
open Go.ChangeShapes Go.WideShapes Go.ChangeAt Go.RowKit

theorem mapM_each {β : Type} {f : Nat → Option β} : ∀ {l : List Nat} {ys : List β}, l.mapM f = some ys → ∀ i ∈ l, ∃ y, f i = some y := by
  intro l
  induction l with
  | nil => intro ys _ i hi; cases hi
  | cons a l ih =>
    intro ys h i hi
    rw [List.mapM_cons] at h
    simp only [bind, Option.bind_eq_some_iff] at h
    obtain ⟨y, hy, zs, hz, _⟩ := h
    rcases List.mem_cons.1 hi with rfl | h2
    · exact ⟨y, hy⟩
    · exact ih hz i h2

theorem open_nums {H : Type} {enc : TypeId × Value → H} {P : Program} {t e : TypeId} {k : IntKind} {n : Nat} (ht : P.underlying t = some (.array n e)) (he : P.underlying e = some (.int k)) (hc : P.cellsOf e = 1) (hct : P.cellsOf t = n) {W : World} {r : Reach} {b0 : Nat} {v : Value} {d : DataW H} {p : List MemPlace}
    (hval : Value.okWide P W r b0 t v) (hd : DataW.Trod enc P W 0 (fun _ => true) true t v d p) : ∃ xs : List Int, v = .agg (nums k xs) ∧ xs.length = n ∧ ∀ x ∈ xs, (Lit.int k x).wf = true := by
  simp only [Value.okWide, ht] at hval
  obtain ⟨cs, rfl, h2, _⟩ := hval
  rw [hct] at h2
  obtain ⟨fuel, hf⟩ := hd
  cases fuel with
  | zero => simp [DataW.trod] at hf
  | succ m =>
    rw [DataW.trod_step] at hf
    unfold DataW.trodStep at hf
    simp only [ht, Value.cells] at hf
    rw [if_pos (by rw [hct]; simpa using h2)] at hf
    simp only [Option.map_eq_some_iff] at hf
    obtain ⟨ys, hy, _⟩ := hf
    have each : ∀ i, i < n → ∃ a : Int, cs[i]? = some (.int k a) ∧ (Lit.int k a).wf = true := by
      intro i hi
      obtain ⟨y, hi2⟩ := mapM_each hy i (by simpa using hi)
      rw [hc, Nat.mul_one] at hi2
      obtain ⟨a, ea, _, wa⟩ := DataW.trod_int he hi2
      refine ⟨a, ?_, wa⟩
      have h3 : (List.take 1 (List.drop i cs.toList))[0]? = some (.int k a) := by rw [ea]; rfl
      rw [List.getElem?_take, if_pos (by decide), List.getElem?_drop, Nat.add_zero, Array.getElem?_toList] at h3
      exact h3
    refine ⟨cs.toList.map intOf, ?_, by simpa using h2, ?_⟩
    · congr 1
      apply Array.ext_getElem?
      intro i
      have e1 : (nums k (cs.toList.map intOf))[i]? = (cs[i]?).map (fun v => Value.int k (intOf v)) := by
        unfold nums
        simp
        rfl
      rw [e1]
      rcases Nat.lt_or_ge i n with h | h
      · obtain ⟨a, ha, _⟩ := each i h
        rw [ha]
        rfl
      · rw [Array.getElem?_eq_none (by omega)]
        rfl
    · intro x hx
      rw [List.mem_map] at hx
      obtain ⟨u, hu, rfl⟩ := hx
      obtain ⟨i, hi, rfl⟩ := List.getElem_of_mem hu
      obtain ⟨a, ha, wa⟩ := each i (by rw [← h2]; simpa using hi)
      have h5 : cs.toList[i] = .int k a := by
        have h6 := Array.getElem?_toList (xs := cs) (i := i)
        rw [ha, List.getElem?_eq_getElem hi] at h6
        exact Option.some.inj h6
      rw [h5]
      exact wa

set_option maxRecDepth 100000 in
theorem open_home {H : Type} {enc : TypeId × Value → H} {W : World} {r : Reach} {b0 : Nat} {v : Value} {d : DataW H} {p : List MemPlace} (hval : Value.okWide Tryd.prog W r b0 23 v) (hd : DataW.Trod enc Tryd.prog W 0 (fun _ => true) true 23 v d p) : ∃ h0 h1 h2 h3 h4 h5 : Int, v = .agg #[.int .i64 h0, .int .i64 h1, .int .i64 h2, .int .i64 h3, .int .i64 h4, .int .i64 h5] := by
  have c1 : Tryd.prog.cellsOf 3 = 1 := by kernel_rfl
  have c6 : Tryd.prog.cellsOf 23 = 6 := by kernel_rfl
  obtain ⟨xs, rfl, hl, _⟩ := open_nums (P := Tryd.prog) (t := 23) (e := 3) (k := .i64) (n := 6) Tryd.underlying23 Tryd.underlying3 c1 c6 hval hd
  match xs, hl with
  | [h0, h1, h2, h3, h4, h5], _ => exact ⟨h0, h1, h2, h3, h4, h5, rfl⟩

set_option maxRecDepth 100000 in
theorem open_wish {H : Type} {enc : TypeId × Value → H} {W : World} {r : Reach} {b0 : Nat} {v : Value} {d : DataW H} {p : List MemPlace} (hval : Value.okWide Tryd.prog W r b0 25 v) (hd : DataW.Trod enc Tryd.prog W 0 (fun _ => true) true 25 v d p) : ∃ v0 v1 v2 : Int, v = .agg #[.int .i64 v0, .int .i64 v1, .int .i64 v2] ∧ ((v0 ≤ 9223372036854775807 ∧ v1 ≤ 9223372036854775807) ∧ v2 ≤ 9223372036854775807) := by
  have c1 : Tryd.prog.cellsOf 3 = 1 := by kernel_rfl
  have c3 : Tryd.prog.cellsOf 25 = 3 := by kernel_rfl
  obtain ⟨xs, rfl, hl, hw⟩ := open_nums (P := Tryd.prog) (t := 25) (e := 3) (k := .i64) (n := 3) Tryd.underlying25 Tryd.underlying3 c1 c3 hval hd
  match xs, hl, hw with
  | [v0, v1, v2], _, hw => exact ⟨v0, v1, v2, rfl, ⟨(i64_bounds (hw v0 (by simp))).2, (i64_bounds (hw v1 (by simp))).2⟩, (i64_bounds (hw v2 (by simp))).2⟩

end Go.Proofs.YtigojnpjpagfjaaDoor.M

namespace Go.Proofs.YtigojnpjpagfjaaDoor
open Go.ChangeShapes Go.WideShapes Go.ChangeAt Go.RowKit M

theorem gTab : Tryd.prog.globalNamed (Rows.planChecksRow.named.headD default) = some 0 := by kernel_rfl
theorem gTabType : (Tryd.prog.globals[0]?).map (·.type) = some 129 := by kernel_rfl
theorem cellsTab : Tryd.prog.cellsOf 129 = 64 := by kernel_rfl
theorem cellsByte : Tryd.prog.cellsOf 5 = 1 := by kernel_rfl

theorem tab_of {W : World} (h : laidMetH Tryd.prog Rows.planChecksRow.laid W) : Tab W := by
  have ht : Lib.TabIs Tryd.prog W (Rows.planChecksRow.named.headD default) .u8 [0, 1, 56, 2, 57, 49, 28, 3, 61, 58, 42, 50, 38, 29, 17, 4, 62, 47, 59, 36, 45, 43, 51, 22, 53, 39, 33, 30, 24, 18, 12, 5, 63, 55, 48, 27, 60, 41, 37, 16, 46, 35, 44, 21, 52, 32, 23, 11, 54, 26, 40, 15, 34, 20, 31, 10, 25, 14, 19, 9, 13, 8, 7, 6] :=
    Lib.tabIs_of_head (rest := []) gTab gTabType Tryd.underlying129 Tryd.underlying5 cellsByte cellsTab h
  intro i hi
  have hc := ht.cell gTab i hi
  rw [hc]
  have e : ∀ i : Fin 64, (([0, 1, 56, 2, 57, 49, 28, 3, 61, 58, 42, 50, 38, 29, 17, 4, 62, 47, 59, 36, 45, 43, 51, 22, 53, 39, 33, 30, 24, 18, 12, 5, 63, 55, 48, 27, 60, 41, 37, 16, 46, 35, 44, 21, 52, 32, 23, 11, 54, 26, 40, 15, 34, 20, 31, 10, 25, 14, 19, 9, 13, 8, 7, 6] : List Int).getD i.val 0) = ((Lib.deBruijn64tab.getD i.val 0 : Nat) : Int) := by decide +kernel
  rw [e ⟨i, hi⟩]

end Go.Proofs.YtigojnpjpagfjaaDoor
