/-
  Own text: rows of one's own, cut short, put together in place, cleared behind.
-/
import Derived.Test.YtnbgdkdnlfomeaaDoorBBe
import Derived.Lib.SliceRun
namespace Go.Proofs.YtnbgdkdnlfomeaaDoor.M
open Go.ChangeShapes Go.WideShapes Go.ChangeAt Go.RowKit Go.ChangeMaps Go.MapKept Go.Maps Go.Shelf Go.Proofs
set_option linter.unusedSimpArgs false

theorem Ch.setCells (b : Nat) : ∀ (vs : List Value) (o : Nat) (w : World), Ch (fun k => k = b) w (w.setCells b o vs)
  | [], _, w => Ch.refl _ w
  | v :: r, o, w => (Ch.setCell w ⟨b, o, Option.none⟩ v).trans (Ch.setCells b r (o + 1) _)

theorem heap_setCells (g : Nat) (t : TypeId) : ∀ (vs : List Value) (o : Nat) (w : World) (cs : Array Value), w.heap[g]? = some (.cells cs t (0, 0)) →
    ∃ cs' : Array Value, (w.setCells g o vs).heap[g]? = some (.cells cs' t (0, 0)) ∧ cs'.size = cs.size ∧ ∀ k, k ≤ o → cs'.toList.take k = cs.toList.take k
  | [], _, _, cs, h => ⟨cs, h, rfl, fun _ _ => rfl⟩
  | v :: r, o, w, cs, h => by
    obtain ⟨cs', h1, h2, h3⟩ := heap_setCells g t r (o + 1) _ _ (heap_setCell_same w g o cs t v h)
    refine ⟨cs', h1, by rw [h2]; simp, fun k hk => ?_⟩
    rw [h3 k (by omega)]
    apply List.ext_getElem?
    intro j
    rw [List.getElem?_take, List.getElem?_take]
    split
    · rw [Array.toList_setIfInBounds, List.getElem?_set_ne (by omega)]
    · rfl

section
variable {T : Type} {S : Shp T}

/-- The first k of one's own. -/
theorem OwG.front {e : TypeId} {w : World} {B : Nat} {p : Option Addr} {n c : Nat} {fs : List T} (h : OwG S e w B p n c fs) {k : Nat} (hk : k ≤ n) : OwG S e w B p k c (fs.take k) := by
  have hl := h.len
  refine ⟨by rw [List.length_take, hl]; omega, ?_⟩
  rcases h.own with ⟨h1, h2⟩ | h2
  · exact Or.inl ⟨by omega, h2⟩
  · obtain ⟨hlen, h3⟩ := h2
    rcases h3 with ⟨hv, hn⟩ | ⟨g, cap, cur, hv, hg, hh, hc2, hm2, hs2, ht2⟩
    · injection hv with e1 e2 e3
      exact Or.inl ⟨by omega, e3⟩
    · injection hv with e1 e2 e3
      subst e1 e3
      refine Or.inr ⟨?_, Or.inr ⟨g, c, cur, rfl, hg, hh, by omega, hm2, hs2, ?_⟩⟩
      · rw [S.fl_len, List.length_take, hl, Nat.min_eq_left hk]
      · rw [S.fl_take, ← ht2, List.take_take, Nat.min_eq_left (Nat.mul_le_mul_right _ hk)]

/-- Behind what is written behind them. -/
theorem OwG.cleared {e : TypeId} {w : World} {B : Nat} {g n c : Nat} {fs : List T} (h : OwG S e w B (some ⟨g, 0, Option.none⟩) n c fs) (vs : List Value) {o : Nat} (ho : n * S.E ≤ o) : OwG S e (w.setCells g o vs) B (some ⟨g, 0, Option.none⟩) n c fs := by
  refine ⟨h.len, ?_⟩
  rcases h.own with h1 | h2
  · exact Or.inl h1
  · obtain ⟨hlen, h3⟩ := h2
    rcases h3 with ⟨hv, hn⟩ | ⟨g', cap, cur, hv, hg, hh, hc2, hm2, hs2, ht2⟩
    · cases hv
    · injection hv with e1 e2 e3
      injection e1 with e1
      injection e1 with e1
      subst e1 e3
      obtain ⟨cs', k1, k2, k3⟩ := heap_setCells g e vs o w cur hh
      exact Or.inr ⟨hlen, Or.inr ⟨g, c, cs', rfl, hg, k1, hc2, hm2, by rw [k2, hs2], by rw [k3 _ ho, ht2]⟩⟩

/-- append in place. -/
theorem run_appG_in {P : Program} (w : World) (t ty e : TypeId) (i : TypeInfo) (ht : P.underlying t = some (.slice e)) (hi : P.info? e = some i) (hsize : i.size = S.E)
    {B : Nat} {p q : Option Addr} {n c m d : Nat} {fs gs : List T} (ho : OwG S e w B p n c fs) (hr : RdG S w q m d gs) (hge : n + m ≤ c) :
    ∃ w', (Builtin.append_ #[t, t] ty #[.slice p n c, .slice q m d]).run P w = .ok (.slice p (n + m) c) w' ∧ OwG S e w' B p (n + m) c (fs ++ gs) ∧ Ch (mine p c) w w' := by
  have hol := ho.len
  by_cases hm : m = 0
  · subst hm
    have : gs = [] := List.length_eq_zero_iff.1 hr.len
    subst this
    exact ⟨w, run_app_zero w t ty e i ht hi p q n c d ho.rd.cap, by simpa using ho, Ch.refl _ _⟩
  · have hm0 : 0 < m := Nat.pos_of_ne_zero hm
    obtain ⟨b, o, rfl, _⟩ := hr.flat hm0
    have hn := hr.nth
    have hl : (S.fl gs).length = m * S.E := by rw [S.fl_len, hr.len]
    have hlg : (fs ++ gs).length = n + m := by rw [List.length_append, hol, hr.len]
    rcases ho.own with h2 | ho2
    · exact absurd h2.2 (by omega)
    · have ho' := ho2
      rcases ho2.2 with ⟨hv, rfl⟩ | ⟨g, cap, cur, hv, hg, hh, hc2, hm2, hs2, ht2⟩
      · injection hv with e1 e2 e3
        exact absurd e3 (by omega)
      · injection hv with e1 e2 e3
        subst e1
        subst e3
        obtain ⟨w', h1, h2, h3⟩ := run_append_own_spare (P := P) w B t ty e i S.E ht hi hsize g n c _ ho' ⟨b, o, .none⟩ m d _ hl hn (S.fl_one gs) hge
        rw [← S.fl_append] at h2
        exact ⟨w', h1, ⟨hlg, Or.inr h2⟩, Ch.grown h3 _ (fun k e => by cases e; exact ⟨by omega, _, rfl, rfl⟩)⟩
end

/-- clear of records. -/
theorem run_clear_rec (w : World) (ty : TypeId) (b o n c : Nat) (hn : 0 < n) (hc : ∀ j, j < n * 14 → (w.cell? ⟨b, o + j, none⟩).isSome = true) (hf : ∀ j, j < n * 14 → w.frozen? ⟨b, o + j, none⟩ = false) :
    ∃ vs : List Value, vs.length = n * 14 ∧ (Builtin.clear_ #[41] ty #[.slice (some ⟨b, o, none⟩) n c]).run Tryd.prog w = .ok (.tuple #[]) (w.setCells b o vs) := by
  obtain ⟨i0, hi0, hz0, hz1, hz2⟩ := info_parts infoRec
  have hz : ∀ w, (zeroValue 64).run Tryd.prog w = .ok (.agg #[.int .i64 0, .int .i64 0, .int .u8 0, .int .u8 0, .int .u8 0, .int .u8 0, .int .u8 0, .int .u8 0, .int .u8 0, .int .u8 0, .int .i64 0, .string ⟨#[]⟩, .int .i64 0, .int .i64 0]) w := fun w => Tryd.zeroValue64 w
  generalize hzc : (Builtin.zeroCells (Value.agg #[.int .i64 0, .int .i64 0, .int .u8 0, .int .u8 0, .int .u8 0, .int .u8 0, .int .u8 0, .int .u8 0, .int .u8 0, .int .u8 0, .int .i64 0, .string ⟨#[]⟩, .int .i64 0, .int .i64 0]).cells n).toList = vs
  have hl : vs.length = n * 14 := by
    rw [← hzc]
    simp [Builtin.zeroCells, Value.cells]
  have h1 : ∀ v ∈ vs, v.oneCell' = true := by
    intro v hv
    rw [← hzc] at hv
    simp only [Builtin.zeroCells, Value.cells, Array.toList_map, List.mem_map] at hv
    obtain ⟨a, _, rfl⟩ := hv
    have : a % 14 < 14 := Nat.mod_lt _ (by decide)
    show (#[Value.int .i64 0, .int .i64 0, .int .u8 0, .int .u8 0, .int .u8 0, .int .u8 0, .int .u8 0, .int .u8 0, .int .u8 0, .int .u8 0, .int .i64 0, .string ⟨#[]⟩, .int .i64 0, .int .i64 0] : Array Value)[a % 14]!.oneCell' = true
    generalize a % 14 = r at *
    match r, this with
    | 0, _ => rfl
    | 1, _ => rfl
    | 2, _ => rfl
    | 3, _ => rfl
    | 4, _ => rfl
    | 5, _ => rfl
    | 6, _ => rfl
    | 7, _ => rfl
    | 8, _ => rfl
    | 9, _ => rfl
    | 10, _ => rfl
    | 11, _ => rfl
    | 12, _ => rfl
    | 13, _ => rfl
  have hst := run_storeCells_cells (P := Tryd.prog) b o vs 0 w (by rw [hl]; simpa using hc) (by rw [hl]; simpa using hf) h1
  simp only [Nat.add_zero] at hst
  obtain ⟨m, rfl⟩ : ∃ m, n = m + 1 := ⟨n - 1, by omega⟩
  refine ⟨vs, hl, ?_⟩
  simp [Builtin.clear_, run_underlying Tryd.underlying41, hz, hzc, hst]

end Go.Proofs.YtnbgdkdnlfomeaaDoor.M
