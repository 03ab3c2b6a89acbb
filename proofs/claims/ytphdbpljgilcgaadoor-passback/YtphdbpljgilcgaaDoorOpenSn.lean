/-
  Own text: what the form tells of arguments that are keys, keys of sixteen bytes, and lists of what was seen.
-/
import Derived.Test.YtphdbpljgilcgaaDoorSAwake
import Derived.Test.YtphdbpljgilcgaaDoorOpen
import Derived.Deep.Slices
import Derived.WideKeyPair
namespace Go.Proofs.YtphdbpljgilcgaaDoor.M
open Go.ChangeShapes Go.WideShapes Go.ChangeAt Go.RowKit
set_option maxRecDepth 20000

theorem byt_of_wf {xs : List Int} (h : ∀ x ∈ xs, (Lit.int .u8 x).wf = true) : Byt xs := fun x hx => by
  have h1 := wf_bounds (h x hx)
  have h2 : IntKind.u8.min = 0 := rfl
  have h3 : IntKind.u8.max = 255 := rfl
  omega

/-- The cells of an array of integers that reads as something. -/
theorem trod_nums {H : Type} {enc : TypeId × Value → H} {P : Program} {t e : TypeId} {k : IntKind} {n : Nat} (ht : P.underlying t = some (.array n e)) (he : P.underlying e = some (.int k)) (hc : P.cellsOf e = 1) (hct : P.cellsOf t = n) {W : World} {fuel : Nat} {cs : List Value} {x : DataW H × List MemPlace}
    (h : DataW.trod enc P W 0 (fun _ => true) true fuel t cs = some x) : ∃ xs : List Int, xs.length = n ∧ cs = xs.map (Value.int k) ∧ ∀ y ∈ xs, (Lit.int k y).wf = true := by
  obtain ⟨ys, m, _, _, hl, hyl, hel⟩ := DataW.trod_array ht h
  rw [hct] at hl
  have each : ∀ i, i < n → ∃ a : Int, cs[i]? = some (.int k a) ∧ (Lit.int k a).wf = true := by
    intro i hi
    have h1 := hel i hi
    rw [hc, Nat.mul_one, List.getElem?_eq_getElem (by omega)] at h1
    obtain ⟨a, ea, _, wa⟩ := DataW.trod_int he h1
    refine ⟨a, ?_, wa⟩
    have h3 : (List.take 1 (List.drop i cs))[0]? = some (.int k a) := by rw [ea]; rfl
    rw [List.getElem?_take, if_pos (by decide), List.getElem?_drop, Nat.add_zero] at h3
    exact h3
  refine ⟨cs.map intOf, by rw [List.length_map, hl], ?_, fun y hy => ?_⟩
  · apply List.ext_getElem?
    intro i
    rw [List.map_map, List.getElem?_map]
    rcases Nat.lt_or_ge i n with hi | hi
    · obtain ⟨a, ha, _⟩ := each i hi
      rw [ha]
      rfl
    · rw [List.getElem?_eq_none (by omega)]
      rfl
  · obtain ⟨u, hu, rfl⟩ := List.mem_map.1 hy
    obtain ⟨i, hi, rfl⟩ := List.getElem_of_mem hu
    obtain ⟨a, ha, wa⟩ := each i (by omega)
    rw [List.getElem?_eq_getElem hi] at ha
    rw [Option.some.inj ha]
    exact wa

theorem open_arr {H : Type} {enc : TypeId × Value → H} {P : Program} {t e : TypeId} {k : IntKind} {n : Nat} (ht : P.underlying t = some (.array n e)) (he : P.underlying e = some (.int k)) (hc : P.cellsOf e = 1) (hct : P.cellsOf t = n) {W : World} {r : Reach} {b0 : Nat} {v : Value} {d : DataW H} {p : List MemPlace}
    (hval : Value.okWide P W r b0 t v) (hd : DataW.Trod enc P W 0 (fun _ => true) true t v d p) : ∃ xs : List Int, v = .agg (nums k xs) ∧ xs.length = n ∧ ∀ x ∈ xs, (Lit.int k x).wf = true := by
  simp only [Value.okWide, ht] at hval
  obtain ⟨cs, rfl, h2, _⟩ := hval
  obtain ⟨fuel, hf⟩ := hd
  obtain ⟨xs, hl, hcs, hwf⟩ := trod_nums ht he hc hct hf
  refine ⟨xs, ?_, hl, hwf⟩
  have h3 : cs.toList = xs.map (Value.int k) := hcs
  unfold nums
  rw [← h3]

theorem open_key {H : Type} {enc : TypeId × Value → H} {W : World} {r : Reach} {b0 : Nat} {v : Value} {d : DataW H} {p : List MemPlace}
    (hval : Value.okWide Tryd.prog W r b0 34 v) (hd : DataW.Trod enc Tryd.prog W 0 (fun _ => true) true 34 v d p) : ∃ q : Nat, v = .agg #[.int .u8 (bt (q) 0), .int .u8 (bt (q) 1), .int .u8 (bt (q) 2), .int .u8 (bt (q) 3), .int .u8 (bt (q) 4), .int .u8 (bt (q) 5), .int .u8 (bt (q) 6), .int .u8 (bt (q) 7)] ∧ q < 18446744073709551616 := by
  obtain ⟨xs, rfl, hl, hwf⟩ := open_arr Tryd.underlying34 Tryd.underlying5 (by kernel_rfl) (by kernel_rfl) hval hd
  refine ⟨shN xs 8, ?_, sh_lt64 (byt_of_wf hwf)⟩
  rw [← nums_bt, eig_sh hl (byt_of_wf hwf)]

theorem open_b16 {H : Type} {enc : TypeId × Value → H} {W : World} {r : Reach} {b0 : Nat} {v : Value} {d : DataW H} {p : List MemPlace}
    (hval : Value.okWide Tryd.prog W r b0 22 v) (hd : DataW.Trod enc Tryd.prog W 0 (fun _ => true) true 22 v d p) : ∃ xs : List Int, v = .agg (nums .u8 xs) ∧ xs.length = 16 ∧ By xs := by
  obtain ⟨xs, rfl, hl, hwf⟩ := open_arr Tryd.underlying22 Tryd.underlying5 (by kernel_rfl) (by kernel_rfl) hval hd
  exact ⟨xs, rfl, hl, byt_of_wf hwf⟩

theorem sn_cells {xs : List Int} (hl : xs.length = 8) (hb : Byt xs) (z : Int) : xs.map (Value.int .u8) ++ [Value.int .i64 z] = Sn.cs ⟨shN xs 8, z⟩ := by
  have h := eig_sh hl hb
  conv => lhs; rw [← h, eigL_bt]
  rfl

theorem open_sns {H : Type} {enc : TypeId × Value → H} {W : World} {a : Option Addr} {len cap : Nat} {d : DataW H} {p : List MemPlace}
    (h : DataW.Trod enc Tryd.prog W 0 (fun _ => true) true 23 (.slice a len cap) d p) : ∃ fs, RdM W a len cap fs ∧ Fit fs := by
  obtain ⟨fuel, hf⟩ := h
  have hce : Tryd.prog.cellsOf 36 = 9 := by kernel_rfl
  have i1 : Tryd.prog.cellsOf 3 = 1 := by kernel_rfl
  have k1 : Tryd.prog.cellsOf 34 = 8 := by kernel_rfl
  have b1 : Tryd.prog.cellsOf 5 = 1 := by kernel_rfl
  rcases Deep.open_slice Tryd.underlying23 hf with ⟨hcs, _⟩ | ⟨ad, l, c, m, n, D, Pl, hcs, _, hl, hm, hmm, hxe, hx⟩
  · simp [Value.cells] at hcs
    obtain ⟨rfl, rfl, rfl⟩ := hcs
    exact ⟨[], RdM.nilR _ _, fit_nil⟩
  · simp [Value.cells] at hcs
    obtain ⟨rfl, rfl, rfl⟩ := hcs
    simp only [if_true] at hmm
    subst hmm
    have each : ∀ i, i < m → ∃ f : Sn, (∀ r, r < 9 → W.cell? (ad.add (i * 9 + r)) = some (f.cs.getD r undef)) ∧ f.n < 18446744073709551616 := by
      intro i hi
      obtain ⟨cs', h1, h2⟩ := hx i hi
      rw [hce] at h1
      obtain ⟨_, hlen, hcell⟩ := World.cells?_some h1
      obtain ⟨xs, k, hk, hxy, _, hxl, hff⟩ := DataW.trod_struct Tryd.underlying36 h2
      have hxl2 : xs.length = 2 := hxl
      have g0 : DataW.trod enc Tryd.prog W 0 (fun _ => true) true k 34 (List.take (Tryd.prog.cellsOf 34) (List.drop 0 cs')) = xs[0]? := hff 0 _ rfl
      have g1 : DataW.trod enc Tryd.prog W 0 (fun _ => true) true k 3 (List.take (Tryd.prog.cellsOf 3) (List.drop 8 cs')) = xs[1]? := hff 1 _ rfl
      rw [i1, List.getElem?_eq_getElem (by omega)] at g1
      rw [k1, List.getElem?_eq_getElem (by omega)] at g0
      obtain ⟨ys, hyl, hys, hyw⟩ := trod_nums Tryd.underlying34 Tryd.underlying5 b1 k1 g0
      obtain ⟨z, hz, _, _⟩ := DataW.trod_int Tryd.underlying3 g1
      have hby := byt_of_wf hyw
      have hall : cs' = Sn.cs ⟨shN ys 8, z⟩ := by
        rw [← sn_cells hyl hby z, ← hys, ← hz, List.drop_zero]
        have h9 : cs'.length = 9 := hlen
        have : List.take 1 (List.drop 8 cs') = List.drop 8 cs' := List.take_of_length_le (by rw [List.length_drop]; omega)
        rw [this, List.take_append_drop]
      refine ⟨⟨shN ys 8, z⟩, fun r hr => ?_, sh_lt64 hby⟩
      have q := hcell r hr
      rw [Deep.add_add] at q
      rw [q, hall, cs_get _ hr]
    obtain ⟨f, hfv⟩ := @Deep.choose_lt Sn ⟨.z0⟩ _ _ each
    refine ⟨(List.range len).map f, ⟨by simp, hl, (fun h => by cases h), fun hn => ?_⟩, fun g hg => ?_⟩
    · obtain ⟨b, o, spot⟩ := ad
      have h0 := (hfv 0 (by omega)).1 0 (by decide)
      have hspot : spot = none := by simpa [Addr.add] using World.cell?_spot h0
      subst hspot
      refine ⟨b, o, rfl, fun j hj => ?_⟩
      have e : j = j / 9 * 9 + j % 9 := by omega
      have hr : j % 9 < 9 := Nat.mod_lt _ (by decide)
      have h1 := (hfv (j / 9) (by omega)).1 (j % 9) hr
      rw [← e, Addr.add_lit] at h1
      rw [h1]
      unfold cellAt
      have e2 : ((List.range len).map f).getD (j / 9) .z0 = f (j / 9) := by rw [List.getD_eq_getElem?_getD, List.getElem?_map, List.getElem?_range (by omega)]; rfl
      rw [e2]
    · obtain ⟨i, hi, rfl⟩ := List.mem_map.1 hg
      exact (hfv i (by have := List.mem_range.1 hi; omega)).2

end Go.Proofs.YtphdbpljgilcgaaDoor.M
