/-
  Own text: lists of what was seen in memory: slices that can be read, rows that a call owns; the contract of slices.Clone over them.
-/
import Derived.Test.YtphdbpljgilcgaaDoorHEig
import Derived.Test.YtphdbpljgilcgaaDoorReader
import Derived.Test.YtphdbpljgilcgaaDoorPSn
import Derived.Deep.MidRow
import Derived.Deep.QuietTactic
import Derived.BigQuiet
import Derived.WalkSmall
import Derived.WalkSpells
import Derived.Lib.Bytes
namespace Go.Proofs.YtphdbpljgilcgaaDoor.M
open Go.ChangeShapes Go.WideShapes Go.ChangeAt Go.RowKit
set_option linter.unusedSimpArgs false

/-- A byte of a number, the highest first. -/
def bt (n i : Nat) : Int := ((n / 2 ^ (56 - 8 * i) % 256 : Nat) : Int)

theorem eigL_bt (n : Nat) : eigL n = [bt n 0, bt n 1, bt n 2, bt n 3, bt n 4, bt n 5, bt n 6, bt n 7] := rfl

theorem nums_bt (n : Nat) : nums .u8 (eigL n) = #[.int .u8 (bt (n) 0), .int .u8 (bt (n) 1), .int .u8 (bt (n) 2), .int .u8 (bt (n) 3), .int .u8 (bt (n) 4), .int .u8 (bt (n) 5), .int .u8 (bt (n) 6), .int .u8 (bt (n) 7)] := rfl

/-- A number of eight bytes is what its bytes say. -/
theorem sh_eig (n : Nat) (h : n < 18446744073709551616) : shN (eigL n) 8 = n := by
  simp only [shN, eigL_bt, bt, List.getD_cons_zero, List.getD_cons_succ, Int.toNat_natCast]
  omega

theorem sh_get {k : List Int} (hb : Byt k) : ∀ m, ∀ i, i < m → (shN k m / 2 ^ (8 * (m - 1 - i)) % 256 : Nat) = (k.getD i 0).toNat
  | 0, i, h => by omega
  | m + 1, i, h => by
    have h2 := hb.get m
    show ((256 * shN k m + (k.getD m 0).toNat) / 2 ^ (8 * (m - i)) % 256 : Nat) = _
    rcases Nat.eq_or_lt_of_le (Nat.le_of_lt_succ h) with rfl | h1
    · rw [Nat.sub_self, Nat.mul_zero, Nat.pow_zero, Nat.div_one]
      omega
    · have ih := sh_get hb m i h1
      obtain ⟨d, rfl⟩ : ∃ d, m = i + 1 + d := ⟨m - (i + 1), by omega⟩
      rw [show 8 * (i + 1 + d - i) = 8 + 8 * d by omega, Nat.pow_add, ← Nat.div_div_eq_div_mul, show (2 : Nat) ^ 8 = 256 from rfl, show (256 * shN k (i + 1 + d) + (k.getD (i + 1 + d) 0).toNat) / 256 = shN k (i + 1 + d) by omega]
      rw [show 8 * (i + 1 + d - 1 - i) = 8 * d by omega] at ih
      exact ih

theorem eig_sh {k : List Int} (hl : k.length = 8) (hb : Byt k) : eigL (shN k 8) = k := by
  apply List.ext_getElem
  · rw [eigL_len, hl]
  · intro i h1 h2
    have hi : i < 8 := by rw [eigL_len] at h1; exact h1
    have e1 := eigL_get (shN k 8) hi
    have e2 := sh_get hb 8 i hi
    have e3 := hb.get i
    rw [List.getD_eq_getElem?_getD, List.getElem?_eq_getElem h1] at e1
    rw [List.getD_eq_getElem?_getD, List.getElem?_eq_getElem h2] at e2 e3
    simp only [Option.getD_some] at e1 e2 e3
    rw [e1, show 56 - 8 * i = 8 * (8 - 1 - i) by omega, e2]
    omega

theorem sh_lt64 {k : List Int} (hb : Byt k) : shN k 8 < 18446744073709551616 := shN_lt hb 8

set_option maxRecDepth 20000 in
theorem number8 (n : Nat) (h : n < 18446744073709551616) (w : World) : Calls Tryd.prog 14 #[.agg #[.int .u8 (bt (n) 0), .int .u8 (bt (n) 1), .int .u8 (bt (n) 2), .int .u8 (bt (n) 3), .int .u8 (bt (n) 4), .int .u8 (bt (n) 5), .int .u8 (bt (n) 6), .int .u8 (bt (n) 7)]] w fun e w' => e = .returned (.int .u64 n) ∧ Below w.heap.size w w' := by
  have h1 := num8_any (eigL n) (eigL_len n) (eigL_by n) w
  rw [sh_eig n h, nums_bt] at h1
  exact h1

set_option maxRecDepth 20000 in
theorem eight8 (n : Nat) (w : World) : Calls Tryd.prog 19 #[.int .u64 n] w fun r w' => r = .returned (.agg #[.int .u8 (bt (n) 0), .int .u8 (bt (n) 1), .int .u8 (bt (n) 2), .int .u8 (bt (n) 3), .int .u8 (bt (n) 4), .int .u8 (bt (n) 5), .int .u8 (bt (n) 6), .int .u8 (bt (n) 7)]) ∧ Below w.heap.size w w' := by
  have h1 := eight_any n w
  rw [nums_bt] at h1
  exact h1

/-- The cells of one that was seen. -/
def Sn.cs (m : Sn) : List Value := [.int .u8 (bt (m.n) 0), .int .u8 (bt (m.n) 1), .int .u8 (bt (m.n) 2), .int .u8 (bt (m.n) 3), .int .u8 (bt (m.n) 4), .int .u8 (bt (m.n) 5), .int .u8 (bt (m.n) 6), .int .u8 (bt (m.n) 7), .int .i64 m.v]

theorem cs_len (m : Sn) : m.cs.length = 9 := rfl

theorem cs_one (m : Sn) : ∀ v ∈ m.cs, v.oneCell' = true := fun v hv => by
  unfold Sn.cs at hv
  simp only [List.mem_cons, List.not_mem_nil, or_false] at hv
  rcases hv with rfl | rfl | rfl | rfl | rfl | rfl | rfl | rfl | rfl <;> rfl

/-- The cells of such, one behind the other. -/
def cellAt (fs : List Sn) (j : Nat) : Value := (fs.getD (j / 9) .z0).cs.getD (j % 9) undef

def cellsM (fs : List Sn) (n : Nat) : List Value := (List.range (n * 9)).map (cellAt fs)

theorem cellsM_len (fs : List Sn) (n : Nat) : (cellsM fs n).length = n * 9 := by simp [cellsM]

theorem cellsM_get (fs : List Sn) (n : Nat) {j : Nat} (h : j < n * 9) : (cellsM fs n)[j]? = some (cellAt fs j) := by
  rw [cellsM, List.getElem?_map, List.getElem?_range h]
  rfl

theorem cellAt_r (fs : List Sn) (i : Nat) {r : Nat} (hr : r < 9) : cellAt fs (i * 9 + r) = (fs.getD i .z0).cs.getD r undef := by
  unfold cellAt
  rw [show (i * 9 + r) / 9 = i by omega, show (i * 9 + r) % 9 = r by omega]

theorem cellAt_shift {fs gs : List Sn} {i k : Nat} (h : fs.getD i .z0 = gs.getD k .z0) {r : Nat} (hr : r < 9) : cellAt fs (i * 9 + r) = cellAt gs (k * 9 + r) := by
  rw [cellAt_r fs i hr, cellAt_r gs k hr, h]

theorem cs_get (m : Sn) {r : Nat} (hr : r < 9) : m.cs[r]? = some (m.cs.getD r undef) := by
  rw [List.getD_eq_getElem?_getD, List.getElem?_eq_getElem (by rw [cs_len]; exact hr)]
  rfl

theorem cellAt_one (fs : List Sn) (j : Nat) : (cellAt fs j).oneCell' = true := by
  have hr : j % 9 < 9 := Nat.mod_lt _ (by decide)
  unfold cellAt
  exact cs_one _ _ (List.mem_of_getElem? (cs_get _ hr))

theorem cellsM_one {L : List Sn} {n : Nat} : ∀ v ∈ cellsM L n, v.oneCell' = true := fun v hv => by
  unfold cellsM at hv
  obtain ⟨j, _, rfl⟩ := List.mem_map.1 hv
  exact cellAt_one L j

/-- A list of such that can be read. -/
structure RdM (w : World) (p : Option Addr) (n c : Nat) (fs : List Sn) : Prop where
  len : fs.length = n
  cap : n ≤ c
  nil : p = none → c = 0
  flat : 0 < n → ∃ b o, p = some ⟨b, o, none⟩ ∧ ∀ j, j < n * 9 → w.cell? ⟨b, o + j, none⟩ = some (cellAt fs j)

theorem nine {w : World} {b o i : Nat} {m : Sn} (h : ∀ r, r < 9 → w.cell? ⟨b, o + (i + r), none⟩ = some (m.cs.getD r undef)) : w.cell? ⟨b, o + i, none⟩ = some (.int .u8 (bt m.n 0)) ∧ w.cell? ⟨b, o + i + 1, none⟩ = some (.int .u8 (bt m.n 1)) ∧ w.cell? ⟨b, o + i + 2, none⟩ = some (.int .u8 (bt m.n 2)) ∧ w.cell? ⟨b, o + i + 3, none⟩ = some (.int .u8 (bt m.n 3)) ∧ w.cell? ⟨b, o + i + 4, none⟩ = some (.int .u8 (bt m.n 4)) ∧ w.cell? ⟨b, o + i + 5, none⟩ = some (.int .u8 (bt m.n 5)) ∧ w.cell? ⟨b, o + i + 6, none⟩ = some (.int .u8 (bt m.n 6)) ∧ w.cell? ⟨b, o + i + 7, none⟩ = some (.int .u8 (bt m.n 7)) ∧ w.cell? ⟨b, o + i + 8, none⟩ = some (.int .i64 m.v) :=
  ⟨h 0 (by decide), h 1 (by decide), h 2 (by decide), h 3 (by decide), h 4 (by decide), h 5 (by decide), h 6 (by decide), h 7 (by decide), h 8 (by decide)⟩

theorem RdM.cells {w : World} {p : Option Addr} {n c : Nat} {fs : List Sn} (h : RdM w p n c fs) (hn : 0 < n) : ∃ b o, p = some ⟨b, o, none⟩ ∧ ∀ i, i < n → w.cell? ⟨b, o + i * 9, none⟩ = some (.int .u8 (bt (fs.getD i .z0).n 0)) ∧ w.cell? ⟨b, o + i * 9 + 1, none⟩ = some (.int .u8 (bt (fs.getD i .z0).n 1)) ∧ w.cell? ⟨b, o + i * 9 + 2, none⟩ = some (.int .u8 (bt (fs.getD i .z0).n 2)) ∧ w.cell? ⟨b, o + i * 9 + 3, none⟩ = some (.int .u8 (bt (fs.getD i .z0).n 3)) ∧ w.cell? ⟨b, o + i * 9 + 4, none⟩ = some (.int .u8 (bt (fs.getD i .z0).n 4)) ∧ w.cell? ⟨b, o + i * 9 + 5, none⟩ = some (.int .u8 (bt (fs.getD i .z0).n 5)) ∧ w.cell? ⟨b, o + i * 9 + 6, none⟩ = some (.int .u8 (bt (fs.getD i .z0).n 6)) ∧ w.cell? ⟨b, o + i * 9 + 7, none⟩ = some (.int .u8 (bt (fs.getD i .z0).n 7)) ∧ w.cell? ⟨b, o + i * 9 + 8, none⟩ = some (.int .i64 (fs.getD i .z0).v) := by
  obtain ⟨b, o, e, hc⟩ := h.flat hn
  refine ⟨b, o, e, fun i hi => nine fun r hr => ?_⟩
  rw [hc (i * 9 + r) (by omega), cellAt_r fs i hr]

theorem RdM.below {w w' : World} {p : Option Addr} {n c : Nat} {fs : List Sn} (h : RdM w p n c fs) (hb : Below w.heap.size w w') : RdM w' p n c fs := by
  refine ⟨h.len, h.cap, h.nil, fun hn => ?_⟩
  obtain ⟨b, o, hp, hc⟩ := h.flat hn
  refine ⟨b, o, hp, fun j hj => ?_⟩
  have h1 := hc j hj
  rw [hb.cell (p := ⟨b, o + j, none⟩) (World.block_lt_of_cell? _ _ h1)]
  exact h1

theorem RdM.of_flat {w : World} {b o n c : Nat} {fs : List Sn} (hl : fs.length = n) (hc : n ≤ c) (h : ∀ j, j < n * 9 → w.cell? ⟨b, o + j, none⟩ = some (cellAt fs j)) : RdM w (some ⟨b, o, none⟩) n c fs :=
  ⟨hl, hc, (fun h => by cases h), fun _ => ⟨b, o, rfl, h⟩⟩

theorem RdM.nilR (w : World) (q : Option Addr) : RdM w q 0 0 [] := ⟨rfl, Nat.le_refl _, fun _ => rfl, fun h => absurd h (Nat.lt_irrefl _)⟩

theorem infoM : (Tryd.prog.info? 36).map (fun i => (i.zero, i.size, i.bytes)) = some (some (.agg #[.int .u8 0, .int .u8 0, .int .u8 0, .int .u8 0, .int .u8 0, .int .u8 0, .int .u8 0, .int .u8 0, .int .i64 0]), 9, 16) := by kernel_rfl

theorem sizeM : (Tryd.prog.info? 36).map (·.size) = some 9 := by kernel_rfl

/-- A row of room for N, the first ones of which are L; it may be written. -/
structure Row (w : World) (g N : Nat) (L : List Sn) : Prop where
  lt : g < w.heap.size
  le : L.length ≤ N
  there : w.there g 0 (N * 9)
  cells : ∀ j, j < L.length * 9 → w.cell? ⟨g, j, none⟩ = some (cellAt L j)

theorem Row.below {w w' : World} {g N B : Nat} {L : List Sn} (h : Row w g N L) (hb : Below B w w') (hB : g < B) : Row w' g N L :=
  ⟨Nat.lt_of_lt_of_le h.lt hb.size, h.le, fun j hj => ⟨by rw [hb.cell (p := ⟨g, 0 + j, none⟩) hB]; exact (h.there j hj).1, by rw [hb.frozen (p := ⟨g, 0 + j, none⟩) hB]; exact (h.there j hj).2⟩, fun j hj => by rw [hb.cell (p := ⟨g, j, none⟩) hB]; exact h.cells j hj⟩

theorem Row.up {w w' : World} {g N : Nat} {L : List Sn} (h : Row w g N L) (hb : Below w.heap.size w w') : Row w' g N L := h.below hb h.lt

theorem Row.rd {w : World} {g N : Nat} {L : List Sn} (h : Row w g N L) : RdM w (some ⟨g, 0, none⟩) L.length N L :=
  RdM.of_flat rfl h.le fun j hj => by rw [Nat.zero_add]; exact h.cells j hj

theorem size_setC (b : Nat) : ∀ (vs : List Value) (o : Nat) (w : World), (w.setCells b o vs).heap.size = w.heap.size
  | [], _, _ => rfl
  | v :: r, o, w => by rw [World.setCells, size_setC b r]; simp

theorem below_setC {B b : Nat} {a : World} (hb : B ≤ b) : ∀ (vs : List Value) (o : Nat) (w : World), Below B a w → Below B a (w.setCells b o vs)
  | [], _, _, h => h
  | v :: r, o, w, h => by rw [World.setCells]; exact below_setC hb r _ _ (h.setCell hb v)

theorem getD_set {L : List Sn} {i k : Nat} {m : Sn} (hi : i < L.length) : (L.set i m).getD k .z0 = if k = i then m else L.getD k .z0 := by
  rw [List.getD_eq_getElem?_getD, List.getD_eq_getElem?_getD, List.getElem?_set]
  by_cases h : i = k
  · subst h
    rw [if_pos rfl, if_pos rfl, if_pos hi]
    rfl
  · rw [if_neg h, if_neg (fun e => h e.symm)]

/-- Behind a store of a version. -/
theorem Row.setV {w : World} {g N : Nat} {L : List Sn} (h : Row w g N L) {i : Nat} (hi : i < L.length) (v : Int) : Row (w.setCell ⟨g, i * 9 + 8, none⟩ (.int .i64 v)) g N (L.set i ⟨(L.getD i .z0).n, v⟩) := by
  have hle := h.le
  have hth := h.there (i * 9 + 8) (by omega)
  rw [Nat.zero_add] at hth
  obtain ⟨u, hu⟩ := Option.isSome_iff_exists.1 hth.1
  refine ⟨by simpa using h.lt, by rw [List.length_set]; exact h.le, fun j hj => ?_, fun j hj => ?_⟩
  · have := h.there j hj
    refine ⟨?_, by rw [World.frozen?_setCell]; exact this.2⟩
    by_cases e : 0 + j = i * 9 + 8
    · rw [e, World.cell?_setCell_same _ _ _ hu]; rfl
    · rw [World.cell?_setCell_other (h := addr_ne (fun e2 => e e2.symm))]; exact this.1
  · rw [List.length_set] at hj
    have e : j = j / 9 * 9 + j % 9 := by omega
    have hm : j % 9 < 9 := Nat.mod_lt _ (by decide)
    by_cases hk : j = i * 9 + 8
    · rw [hk, World.cell?_setCell_same _ _ _ hu, cellAt_r _ _ (by decide), getD_set hi, if_pos rfl]
      rfl
    · rw [World.cell?_setCell_other (h := addr_ne (fun e2 => hk e2.symm)), h.cells j hj, e, cellAt_r _ _ hm, cellAt_r _ _ hm, getD_set hi]
      by_cases h2 : j / 9 = i
      · rw [if_pos h2, h2]
        have h8 : j % 9 < 8 := by omega
        generalize j % 9 = r at h8
        match r, h8 with
        | 0, _ => rfl
        | 1, _ => rfl
        | 2, _ => rfl
        | 3, _ => rfl
        | 4, _ => rfl
        | 5, _ => rfl
        | 6, _ => rfl
        | 7, _ => rfl
      · rw [if_neg h2]

theorem Row.of_owns {w : World} {B n : Nat} {v : Value} {L : List Sn} (h : w.ownsRow B 36 9 v n (cellsM L n)) (hl : L.length = n) (h0 : 0 < n) : ∃ g cap, v = .slice (some ⟨g, 0, none⟩) n cap ∧ B ≤ g ∧ Row w g cap L := by
  have h' := h
  rcases h.2 with ⟨_, h2⟩ | ⟨g, cap, cur, rfl, hg, hh, hc, _, hs, _⟩
  · omega
  · refine ⟨g, cap, rfl, hg, (Array.getElem?_eq_some_iff.1 hh).1, by omega, fun j hj => ⟨?_, frozen_of_row w g _ _ _ hh⟩, fun j hj => ?_⟩
    · unfold World.cell?
      dsimp only
      rw [hh]
      dsimp only
      rw [Array.getElem?_eq_getElem (by omega)]
      rfl
    · have h4 := World.ownsRow.cells h' (g := g) rfl j (cellAt L j) (cellsM_get L n (by omega))
      rw [Addr.add_lit, Nat.zero_add] at h4
      exact h4

theorem RdM.nth {w : World} {b o n c : Nat} {ms : List Sn} (hr : RdM w (some ⟨b, o, none⟩) n c ms) : ∀ j u, (cellsM ms n)[j]? = some u → w.cell? ((⟨b, o, none⟩ : Addr).add j) = some u := by
  intro j u hj
  have hj' : j < n * 9 := by
    rcases Nat.lt_or_ge j (n * 9) with h | h
    · exact h
    · rw [List.getElem?_eq_none (by rw [cellsM_len]; exact h)] at hj; cases hj
  obtain ⟨b', o', e, hc⟩ := hr.flat (by omega)
  cases e
  rw [cellsM_get ms n hj'] at hj
  rw [Addr.add_lit, hc j hj', hj]

/-- append(s[:0:0], l...): new memory of the same, or nothing. -/
theorem run_appM {P : Program} (w : World) (t ty e : TypeId) (i : TypeInfo) (z : Value) (by_ : Nat) (ht : P.underlying t = some (.slice e)) (hi : P.info? e = some i) (hz : i.zero = some z) (hsize : i.size = 9) (hby : i.bytes = by_) (hzs : z.cells.size = 9)
    (a : Addr) {q : Option Addr} {m d : Nat} {fs : List Sn} (hr : RdM w q m d fs) (hb : m * by_ ≤ 140737488355328) (h63 : m ≤ maxLen) :
    ∃ v w', (Builtin.append_ #[t, t] ty #[.slice (some a) 0 0, .slice q m d]).run P w = .ok v w' ∧ ((m = 0 ∧ v = .slice (some a) 0 0) ∨ (0 < m ∧ w'.ownsRow w.heap.size e 9 v m (cellsM fs m))) ∧ Below w.heap.size w w' := by
  by_cases hm : m = 0
  · subst hm
    exact ⟨_, w, run_app_zero w t ty e i ht hi (some a) q 0 0 d (Nat.le_refl _), Or.inl ⟨rfl, rfl⟩, Below.refl _ _⟩
  · obtain ⟨b, o, rfl, hc⟩ := hr.flat (by omega)
    obtain ⟨v', w', h1, h2, h3⟩ := run_append_arg_grows (P := P) w t ty e i z 9 by_ ht hi hz hsize hby hzs (by decide) a 0 0 [] (by simp) (by simp) ⟨b, o, none⟩ m d (cellsM fs m) (cellsM_len _ _) hr.nth (by omega) (by omega) (by rw [Nat.zero_add]; exact hb)
    rw [Nat.zero_add, List.nil_append] at h2
    exact ⟨v', w', h1, Or.inr ⟨by omega, h2⟩, (Below.refl _ _).grown h3 (Nat.le_refl _) fun g hg => by cases hg⟩

theorem wpList_appM {P : Program} (w : World) {ops : Array Oper} {rest : List Oper} {o : Oper} {a : Act} {Q : Exit → Act → World → Prop} (hgd : o.guard = none) (s x : Operand) (t : TypeId)
    (hop : o.op = .call { callee := .builtin .append, args := #[s, x], argTypes := #[t, t] })
    (e : TypeId) (i : TypeInfo) (z : Value) (by_ : Nat) (ht : P.underlying t = some (.slice e)) (hi : P.info? e = some i) (hz : i.zero = some z) (hsize : i.size = 9) (hby : i.bytes = by_) (hzs : z.cells.size = 9)
    (ad : Addr) (hs : a.eval s = .slice (some ad) 0 0) (q : Option Addr) (m d : Nat) (fs : List Sn) (hx : a.eval x = .slice q m d) (hr : RdM w q m d fs) (hb : m * by_ ≤ 140737488355328) (h63 : m ≤ maxLen)
    (h : ∀ v w', ((m = 0 ∧ v = .slice (some ad) 0 0) ∨ (0 < m ∧ w'.ownsRow w.heap.size e 9 v m (cellsM fs m))) → Below w.heap.size w w' → wpList P ops Q rest (a.put o.dst v) w') : wpList P ops Q (o :: rest) a w := by
  refine wpList_plain hgd fun K hK => ?_
  obtain ⟨v, w', hrun, h1, h2⟩ := run_appM (P := P) w t o.type e i z by_ ht hi hz hsize hby hzs ad hr hb h63
  unfold Oper.wp
  simp [execOp, hop, resolve, invoke, builtin, hs, hx, hrun, Result.andThen]
  exact hK _ _ (h v w' h1 h2)

/-- A copy: none, or new memory of the call's own (not below B). -/
def Copy (w : World) (B n : Nat) (ms : List Sn) (v : Value) : Prop := (n = 0 ∧ ∃ q, v = .slice q 0 0) ∨ (0 < n ∧ w.ownsRow B 36 9 v n (cellsM ms n))

theorem Copy.rd {w : World} {B n : Nat} {ms : List Sn} {v : Value} (h : Copy w B n ms v) (hl : ms.length = n) : ∃ q c, v = .slice q n c ∧ RdM w q n c ms := by
  rcases h with ⟨rfl, q, rfl⟩ | ⟨h0, ho⟩
  · exact ⟨q, 0, rfl, hl, Nat.le_refl _, fun _ => rfl, fun h => absurd h (Nat.lt_irrefl _)⟩
  · obtain ⟨g, cap, rfl, _, hr⟩ := Row.of_owns ho hl h0
    exact ⟨_, _, rfl, hl ▸ hr.rd⟩

set_option maxRecDepth 20000 in
set_option maxHeartbeats 1000000 in
theorem cloneM_any (p : Option Addr) (n c : Nat) (fs : List Sn) (w : World) (hr : RdM w p n c fs) (hn : n ≤ 1099511627776) :
    Calls Tryd.prog 23 #[.slice p n c] w fun e w' => ∃ v, e = .returned v ∧ Copy w' w.heap.size n fs v ∧ Below w.heap.size w w' := by
  have q22 : ∀ (w : World) (a : Option Addr) (n c n' c' : Nat), (binOp .eql 23 (.slice a n c) (.slice none n' c')).run Tryd.prog w = .ok (.bool a.isNone) w := fun w a n c n' c' => Lib.run_eql_slice_nil w _ _ a n c n' c' Tryd.underlying23
  obtain ⟨i0, hi0, hz0, hz1, hz2⟩ := info_parts infoM
  cases p with
  | none =>
    have hn0 : n = 0 := by have := hr.cap; have := hr.nil rfl; omega
    subst hn0
    have hf0 : fs = [] := List.length_eq_zero_iff.1 hr.len
    subst hf0
    have hc0 := hr.nil rfl
    subst hc0
    go_enter Tryd.func23, Tryd.ntmps23
    go_wp2_with fail
    go_ret
    exact ⟨_, rfl, Or.inl ⟨rfl, none, rfl⟩, Below.refl _ _⟩
  | some ad =>
    have hra := hr.below ((Below.refl w.heap.size w).alloc (Nat.le_refl _) (.cells #[] 36))
    have hba := (Below.refl w.heap.size w).alloc (Nat.le_refl _) (.cells #[] 36)
    clear hr
    go_enter Tryd.func23, Tryd.ntmps23
    go_wp2_with (refine wpList_appM _ rfl (.tmp 5) (.tmp 6) 23 rfl 36 i0 _ 16 Tryd.underlying23 hi0 hz0 hz1 hz2 rfl _ rfl (some ad) n c fs rfl hra ?c1 ?c2 ?_)
    case c1 => omega
    case c2 => unfold maxLen; omega
    intro v w' h1 h2
    go_wp2_with fail
    go_ret
    refine ⟨v, rfl, ?_, hba.trans (h2.mono (by simp))⟩
    rcases h1 with ⟨h0, hv⟩ | ⟨h0, ho⟩
    · exact Or.inl ⟨h0, _, hv⟩
    · exact Or.inr ⟨h0, ownsRow_lower ho (by simp)⟩

end Go.Proofs.YtphdbpljgilcgaaDoor.M
