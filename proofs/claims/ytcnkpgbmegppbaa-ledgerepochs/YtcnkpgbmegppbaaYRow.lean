/-
  Own text: rows of members that a call owns and may write; the contract of slices.Clone over members.
-/
import Derived.Test.YtcnkpgbmegppbaaYPlace
import Derived.Deep.MidRow
namespace Go.Proofs.Ytcnkpgbmegppbaa.M
open Go.ChangeShapes Go.WideShapes Go.ChangeAt Go.RowKit

/-- The cells of members, one behind the other. -/
def cellAt (fs : List Mb) (j : Nat) : Value := if j % 3 = 0 then .int .i64 (fs.getD (j / 3) .z0).n else if j % 3 = 1 then .int .i64 (fs.getD (j / 3) .z0).s else .bool (fs.getD (j / 3) .z0).f

def cellsM (fs : List Mb) (n : Nat) : List Value := (List.range (n * 3)).map (cellAt fs)

theorem cellsM_get (fs : List Mb) (n : Nat) {j : Nat} (h : j < n * 3) : (cellsM fs n)[j]? = some (cellAt fs j) := by
  rw [cellsM, List.getElem?_map, List.getElem?_range h]
  rfl

theorem cellAt_0 (fs : List Mb) (i : Nat) : cellAt fs (i * 3) = .int .i64 (fs.getD i .z0).n := by
  unfold cellAt
  rw [if_pos (by omega), show i * 3 / 3 = i by omega]

theorem cellAt_1 (fs : List Mb) (i : Nat) : cellAt fs (i * 3 + 1) = .int .i64 (fs.getD i .z0).s := by
  unfold cellAt
  rw [if_neg (by omega), if_pos (by omega), show (i * 3 + 1) / 3 = i by omega]

theorem cellAt_2 (fs : List Mb) (i : Nat) : cellAt fs (i * 3 + 2) = .bool (fs.getD i .z0).f := by
  unfold cellAt
  rw [if_neg (by omega), if_neg (by omega), show (i * 3 + 2) / 3 = i by omega]

theorem cellAt_shift {fs gs : List Mb} {i k : Nat} (h : fs.getD i .z0 = gs.getD k .z0) {r : Nat} (hr : r < 3) : cellAt fs (i * 3 + r) = cellAt gs (k * 3 + r) := by
  match r, hr with
  | 0, _ => rw [Nat.add_zero, Nat.add_zero, cellAt_0, cellAt_0, h]
  | 1, _ => rw [cellAt_1, cellAt_1, h]
  | 2, _ => rw [cellAt_2, cellAt_2, h]

theorem cellAt_one (fs : List Mb) (j : Nat) : (cellAt fs j).oneCell' = true := by
  unfold cellAt
  split
  · rfl
  · split <;> rfl

theorem RdM.flat {w : World} {p : Option Addr} {n c : Nat} {fs : List Mb} (h : RdM w p n c fs) (hn : 0 < n) : ∃ b o, p = some ⟨b, o, none⟩ ∧ ∀ j, j < n * 3 → w.cell? ⟨b, o + j, none⟩ = some (cellAt fs j) := by
  obtain ⟨b, o, hp, hc⟩ := h.cells hn
  refine ⟨b, o, hp, fun j hj => ?_⟩
  obtain ⟨h0, h1, h2⟩ := hc (j / 3) (by omega)
  have e : j = j / 3 * 3 + j % 3 := by omega
  have hm : j % 3 < 3 := Nat.mod_lt _ (by decide)
  generalize j / 3 = i at *
  generalize j % 3 = r at *
  subst e
  match r, hm with
  | 0, _ => rw [Nat.add_zero, cellAt_0]; exact h0
  | 1, _ => rw [cellAt_1]; exact h1
  | 2, _ => rw [cellAt_2]; exact h2

theorem RdM.of_flat {w : World} {b o n c : Nat} {fs : List Mb} (hl : fs.length = n) (hc : n ≤ c) (h : ∀ j, j < n * 3 → w.cell? ⟨b, o + j, none⟩ = some (cellAt fs j)) : RdM w (some ⟨b, o, none⟩) n c fs :=
  ⟨hl, hc, (fun h => by cases h), fun _ => ⟨b, o, rfl, fun i hi => ⟨by rw [h (i * 3) (by omega), cellAt_0], by rw [Nat.add_assoc, h (i * 3 + 1) (by omega), cellAt_1], by rw [Nat.add_assoc, h (i * 3 + 2) (by omega), cellAt_2]⟩⟩⟩

theorem infoM : (Try.prog.info? 48).map (fun i => (i.zero, i.size, i.bytes)) = some (some (.agg #[.int .i64 0, .int .i64 0, .bool false]), 3, 24) := by kernel_rfl

theorem sizeM : (Try.prog.info? 48).map (·.size) = some 3 := by kernel_rfl

/-- A row of room for N members, the first ones of which are L; it may be written. -/
structure Row (w : World) (g N : Nat) (L : List Mb) : Prop where
  lt : g < w.heap.size
  le : L.length ≤ N
  there : w.there g 0 (N * 3)
  cells : ∀ j, j < L.length * 3 → w.cell? ⟨g, j, none⟩ = some (cellAt L j)

theorem Row.below {w w' : World} {g N B : Nat} {L : List Mb} (h : Row w g N L) (hb : Below B w w') (hB : g < B) : Row w' g N L :=
  ⟨Nat.lt_of_lt_of_le h.lt hb.size, h.le, fun j hj => ⟨by rw [hb.cell (p := ⟨g, 0 + j, none⟩) hB]; exact (h.there j hj).1, by rw [hb.frozen (p := ⟨g, 0 + j, none⟩) hB]; exact (h.there j hj).2⟩, fun j hj => by rw [hb.cell (p := ⟨g, j, none⟩) hB]; exact h.cells j hj⟩

theorem Row.up {w w' : World} {g N : Nat} {L : List Mb} (h : Row w g N L) (hb : Below w.heap.size w w') : Row w' g N L := h.below hb h.lt

theorem Row.rd {w : World} {g N : Nat} {L : List Mb} (h : Row w g N L) : RdM w (some ⟨g, 0, none⟩) L.length N L :=
  RdM.of_flat rfl h.le fun j hj => by rw [Nat.zero_add]; exact h.cells j hj

theorem Row.at {w : World} {g N : Nat} {L : List Mb} (h : Row w g N L) {i : Nat} (hi : i < L.length) : w.cell? ⟨g, i * 3, none⟩ = some (.int .i64 (L.getD i .z0).n) ∧ w.cell? ⟨g, i * 3 + 1, none⟩ = some (.int .i64 (L.getD i .z0).s) ∧ w.cell? ⟨g, i * 3 + 2, none⟩ = some (.bool (L.getD i .z0).f) :=
  ⟨by rw [h.cells (i * 3) (by omega), cellAt_0], by rw [h.cells (i * 3 + 1) (by omega), cellAt_1], by rw [h.cells (i * 3 + 2) (by omega), cellAt_2]⟩

/-- A member's cells. -/
def Mb.cs (m : Mb) : List Value := [.int .i64 m.n, .int .i64 m.s, .bool m.f]

theorem size_setC (b : Nat) : ∀ (vs : List Value) (o : Nat) (w : World), (w.setCells b o vs).heap.size = w.heap.size
  | [], _, _ => rfl
  | v :: r, o, w => by rw [World.setCells, size_setC b r]; simp

theorem below_setC {B b : Nat} {a : World} (hb : B ≤ b) : ∀ (vs : List Value) (o : Nat) (w : World), Below B a w → Below B a (w.setCells b o vs)
  | [], _, _, h => h
  | v :: r, o, w, h => by rw [World.setCells]; exact below_setC hb r _ _ (h.setCell hb v)

theorem Row.thereAt {w : World} {g N : Nat} {L : List Mb} (h : Row w g N L) {i : Nat} (hi : i < N) : w.there g (i * 3) 3 := fun j hj => by
  have := h.there (i * 3 + j) (by omega)
  rw [Nat.zero_add] at this
  exact this

theorem getD_set {L : List Mb} {i k : Nat} {m : Mb} (hi : i < L.length) : (L.set i m).getD k .z0 = if k = i then m else L.getD k .z0 := by
  rw [List.getD_eq_getElem?_getD, List.getD_eq_getElem?_getD, List.getElem?_set]
  by_cases h : i = k
  · subst h
    rw [if_pos rfl, if_pos rfl, if_pos hi]
    rfl
  · rw [if_neg h, if_neg (fun e => h e.symm)]

theorem Row.set {w : World} {g N : Nat} {L : List Mb} (h : Row w g N L) {i : Nat} (hi : i < L.length) (m : Mb) : Row (w.setCells g (i * 3) m.cs) g N (L.set i m) := by
  have hle := h.le
  have ht := h.thereAt (i := i) (by omega)
  refine ⟨by rw [size_setC]; exact h.lt, by rw [List.length_set]; exact h.le, World.there_setCells h.there _ _ _, fun j hj => ?_⟩
  rw [List.length_set] at hj
  have e : j = j / 3 * 3 + j % 3 := by omega
  have hm : j % 3 < 3 := Nat.mod_lt _ (by decide)
  by_cases hk : j / 3 = i
  · have hin := World.cell?_setCells_in g m.cs (i * 3) w (fun k hk => (ht k hk).1) (j % 3) hm
    have hc : cellAt (L.set i m) j = m.cs[j % 3] := by
      have hg : (L.set i m).getD i .z0 = m := by rw [getD_set hi, if_pos rfl]
      rw [hk] at e
      generalize j % 3 = r at *
      subst e
      match r, hm with
      | 0, _ => rw [Nat.add_zero, cellAt_0, hg]; rfl
      | 1, _ => rw [cellAt_1, hg]; rfl
      | 2, _ => rw [cellAt_2, hg]; rfl
    rw [hc, ← hin]
    congr 2
    omega
  · rw [World.cell?_setCells_out g _ _ w ⟨g, j, none⟩ (fun _ _ => by show j < i * 3 ∨ i * 3 + 3 ≤ j; omega), h.cells j hj, e]
    exact congrArg some (cellAt_shift (by rw [getD_set hi, if_neg hk]) hm)

theorem Row.of_owns {w : World} {B n : Nat} {v : Value} {L : List Mb} (h : w.ownsRow B 48 3 v n (cellsM L n)) (hl : L.length = n) (h0 : 0 < n) : ∃ g cap, v = .slice (some ⟨g, 0, none⟩) n cap ∧ B ≤ g ∧ Row w g cap L := by
  have h' := h
  rcases h.2 with ⟨_, h2⟩ | ⟨g, cap, cur, rfl, hg, hh, hc, _, hs, _⟩
  · omega
  · refine ⟨g, cap, rfl, hg, (Array.getElem?_eq_some_iff.1 hh).1, by omega, fun j hj => ⟨?_, frozen_of_row w g _ _ _ hh⟩, fun j hj => ?_⟩
    · unfold World.cell?
      dsimp only
      rw [hh]
      dsimp only
      rw [Array.getElem?_eq_getElem (by omega)]
      rfl
    · have h4 := World.ownsRow.cells h' (g := g) rfl j (cellAt L j) (cellsM_get L n (by omega))
      rw [Addr.add_lit, Nat.zero_add] at h4
      exact h4

theorem RdM.nth {w : World} {b o n c : Nat} {ms : List Mb} (hr : RdM w (some ⟨b, o, none⟩) n c ms) : ∀ j u, (cellsM ms n)[j]? = some u → w.cell? ((⟨b, o, none⟩ : Addr).add j) = some u := by
  intro j u hj
  have hj' : j < n * 3 := by
    rcases Nat.lt_or_ge j (n * 3) with h | h
    · exact h
    · rw [List.getElem?_eq_none (by simp [cellsM]; omega)] at hj; cases hj
  obtain ⟨b', o', e, hc⟩ := hr.flat (by omega)
  cases e
  rw [cellsM_get ms n hj'] at hj
  rw [Addr.add_lit, hc j hj', hj]

/-- append(s[:0:0], l...): new memory of the same members, or nothing. -/
theorem run_appM {P : Program} (w : World) (t ty e : TypeId) (i : TypeInfo) (z : Value) (by_ : Nat) (ht : P.underlying t = some (.slice e)) (hi : P.info? e = some i) (hz : i.zero = some z) (hsize : i.size = 3) (hby : i.bytes = by_) (hzs : z.cells.size = 3)
    (a : Addr) {q : Option Addr} {m d : Nat} {fs : List Mb} (hr : RdM w q m d fs) (hb : m * by_ ≤ 140737488355328) (h63 : m ≤ maxLen) :
    ∃ v w', (Builtin.append_ #[t, t] ty #[.slice (some a) 0 0, .slice q m d]).run P w = .ok v w' ∧ ((m = 0 ∧ v = .slice (some a) 0 0) ∨ (0 < m ∧ w'.ownsRow w.heap.size e 3 v m (cellsM fs m))) ∧ Below w.heap.size w w' := by
  by_cases hm : m = 0
  · subst hm
    exact ⟨_, w, run_app_zero w t ty e i ht hi (some a) q 0 0 d (Nat.le_refl _), Or.inl ⟨rfl, rfl⟩, Below.refl _ _⟩
  · obtain ⟨b, o, rfl, hc⟩ := hr.flat (by omega)
    obtain ⟨v', w', h1, h2, h3⟩ := run_append_arg_grows (P := P) w t ty e i z 3 by_ ht hi hz hsize hby hzs (by decide) a 0 0 [] (by simp) (by simp) ⟨b, o, none⟩ m d (cellsM fs m) (by simp [cellsM]) hr.nth (by omega) (by omega) (by rw [Nat.zero_add]; exact hb)
    rw [Nat.zero_add, List.nil_append] at h2
    exact ⟨v', w', h1, Or.inr ⟨by omega, h2⟩, (Below.refl _ _).grown h3 (Nat.le_refl _) fun g hg => by cases hg⟩

theorem wpList_appM {P : Program} (w : World) {ops : Array Oper} {rest : List Oper} {o : Oper} {a : Act} {Q : Exit → Act → World → Prop} (hgd : o.guard = none) (s x : Operand) (t : TypeId)
    (hop : o.op = .call { callee := .builtin .append, args := #[s, x], argTypes := #[t, t] })
    (e : TypeId) (i : TypeInfo) (z : Value) (by_ : Nat) (ht : P.underlying t = some (.slice e)) (hi : P.info? e = some i) (hz : i.zero = some z) (hsize : i.size = 3) (hby : i.bytes = by_) (hzs : z.cells.size = 3)
    (ad : Addr) (hs : a.eval s = .slice (some ad) 0 0) (q : Option Addr) (m d : Nat) (fs : List Mb) (hx : a.eval x = .slice q m d) (hr : RdM w q m d fs) (hb : m * by_ ≤ 140737488355328) (h63 : m ≤ maxLen)
    (h : ∀ v w', ((m = 0 ∧ v = .slice (some ad) 0 0) ∨ (0 < m ∧ w'.ownsRow w.heap.size e 3 v m (cellsM fs m))) → Below w.heap.size w w' → wpList P ops Q rest (a.put o.dst v) w') : wpList P ops Q (o :: rest) a w := by
  refine wpList_plain hgd fun K hK => ?_
  obtain ⟨v, w', hrun, h1, h2⟩ := run_appM (P := P) w t o.type e i z by_ ht hi hz hsize hby hzs ad hr hb h63
  unfold Oper.wp
  simp [execOp, hop, resolve, invoke, builtin, hs, hx, hrun, Result.andThen]
  exact hK _ _ (h v w' h1 h2)

/-- A copy of members: none, or new memory of the call's own (not below B). -/
def Copy (w : World) (B n : Nat) (ms : List Mb) (v : Value) : Prop := (n = 0 ∧ ∃ q, v = .slice q 0 0) ∨ (0 < n ∧ w.ownsRow B 48 3 v n (cellsM ms n))

theorem Copy.rd {w : World} {B n : Nat} {ms : List Mb} {v : Value} (h : Copy w B n ms v) (hl : ms.length = n) : ∃ q c, v = .slice q n c ∧ RdM w q n c ms := by
  rcases h with ⟨rfl, q, rfl⟩ | ⟨h0, ho⟩
  · exact ⟨q, 0, rfl, hl, Nat.le_refl _, fun _ => rfl, fun h => absurd h (Nat.lt_irrefl _)⟩
  · obtain ⟨g, cap, rfl, _, hr⟩ := Row.of_owns ho hl h0
    exact ⟨_, _, rfl, hl ▸ hr.rd⟩

set_option maxRecDepth 20000 in
set_option maxHeartbeats 1000000 in
theorem cloneM_any (p : Option Addr) (n c : Nat) (fs : List Mb) (w : World) (hr : RdM w p n c fs) (hn : n ≤ 5864062014805) :
    Calls Try.prog 64 #[.slice p n c] w fun e w' => ∃ v, e = .returned v ∧ Copy w' w.heap.size n fs v ∧ Below w.heap.size w w' := by
  have q22 : ∀ (w : World) (a : Option Addr) (n c n' c' : Nat), (binOp .eql 34 (.slice a n c) (.slice none n' c')).run Try.prog w = .ok (.bool a.isNone) w := fun w a n c n' c' => Lib.run_eql_slice_nil w _ _ a n c n' c' Try.underlying34
  obtain ⟨i0, hi0, hz0, hz1, hz2⟩ := info_parts infoM
  cases p with
  | none =>
    have hn0 : n = 0 := by have := hr.cap; have := hr.nil rfl; omega
    subst hn0
    have hf0 : fs = [] := List.length_eq_zero_iff.1 hr.len
    subst hf0
    have hc0 := hr.nil rfl
    subst hc0
    go_enter Try.func64, Try.ntmps64
    go_wp2_with fail
    go_ret
    exact ⟨_, rfl, Or.inl ⟨rfl, none, rfl⟩, Below.refl _ _⟩
  | some ad =>
    have hra := hr.below ((Below.refl w.heap.size w).alloc (Nat.le_refl _) (.cells #[] 48))
    have hba := (Below.refl w.heap.size w).alloc (Nat.le_refl _) (.cells #[] 48)
    clear hr
    go_enter Try.func64, Try.ntmps64
    go_wp2_with (refine wpList_appM _ rfl (.tmp 5) (.tmp 6) 34 rfl 48 i0 (.agg #[.int .i64 0, .int .i64 0, .bool false]) 24 Try.underlying34 hi0 hz0 hz1 hz2 rfl _ rfl (some ad) n c fs rfl hra ?c1 ?c2 ?_)
    case c1 => omega
    case c2 => unfold maxLen; omega
    intro v w' h1 h2
    go_wp2_with fail
    go_ret
    refine ⟨v, rfl, ?_, hba.trans (h2.mono (by simp))⟩
    rcases h1 with ⟨h0, hv⟩ | ⟨h0, ho⟩
    · exact Or.inl ⟨h0, _, hv⟩
    · exact Or.inr ⟨h0, ownsRow_lower ho (by simp)⟩

end Go.Proofs.Ytcnkpgbmegppbaa.M
