/-
  Own text: contracts of slices.Clone and slices.Equal over fields; what the form tells of an argument that is a slice of fields.
-/
import Derived.Test.YtddekakihandeaaDoorKFld
import Derived.Test.YtddekakihandeaaDoorOpen
import Derived.Deep.Slices
import Derived.Lib.Bytes
namespace Go.Proofs.YtddekakihandeaaDoor.M
open Go.ChangeShapes Go.WideShapes Go.ChangeAt Go.RowKit

/-- The cells of fields, one behind the other. -/
def cellAt (fs : List Fld) (j : Nat) : Value := if j % 3 = 0 then .int .i64 (fs.getD (j / 3) .z0).b else if j % 3 = 1 then .int .i64 (fs.getD (j / 3) .z0).v else .bool (fs.getD (j / 3) .z0).s

def cellsF (fs : List Fld) (n : Nat) : List Value := (List.range (n * 3)).map (cellAt fs)

theorem cellsF_get (fs : List Fld) (n : Nat) {j : Nat} (h : j < n * 3) : (cellsF fs n)[j]? = some (cellAt fs j) := by
  rw [cellsF, List.getElem?_map, List.getElem?_range h]
  rfl

theorem cellAt_0 (fs : List Fld) (i : Nat) : cellAt fs (i * 3) = .int .i64 (fs.getD i .z0).b := by
  unfold cellAt
  rw [if_pos (by omega), show i * 3 / 3 = i by omega]

theorem cellAt_1 (fs : List Fld) (i : Nat) : cellAt fs (i * 3 + 1) = .int .i64 (fs.getD i .z0).v := by
  unfold cellAt
  rw [if_neg (by omega), if_pos (by omega), show (i * 3 + 1) / 3 = i by omega]

theorem cellAt_2 (fs : List Fld) (i : Nat) : cellAt fs (i * 3 + 2) = .bool (fs.getD i .z0).s := by
  unfold cellAt
  rw [if_neg (by omega), if_neg (by omega), show (i * 3 + 2) / 3 = i by omega]

theorem RdF.flat {w : World} {p : Option Addr} {n c : Nat} {fs : List Fld} (h : RdF w p n c fs) (hn : 0 < n) : ∃ b o, p = some ⟨b, o, none⟩ ∧ ∀ j, j < n * 3 → w.cell? ⟨b, o + j, none⟩ = some (cellAt fs j) := by
  obtain ⟨b, o, hp, hc⟩ := h.cells hn
  refine ⟨b, o, hp, fun j hj => ?_⟩
  obtain ⟨h0, h1, h2⟩ := hc (j / 3) (by omega)
  have e : j = j / 3 * 3 + j % 3 := by omega
  have hm : j % 3 < 3 := Nat.mod_lt _ (by decide)
  generalize j / 3 = i at *
  generalize j % 3 = r at *
  subst e
  match r, hm with
  | 0, _ => rw [Nat.add_zero, cellAt_0]; exact h0
  | 1, _ => rw [cellAt_1]; exact h1
  | 2, _ => rw [cellAt_2]; exact h2

theorem RdF.of_flat {w : World} {b o n c : Nat} {fs : List Fld} (hl : fs.length = n) (hc : n ≤ c) (h : ∀ j, j < n * 3 → w.cell? ⟨b, o + j, none⟩ = some (cellAt fs j)) : RdF w (some ⟨b, o, none⟩) n c fs :=
  ⟨hl, hc, (fun h => by cases h), fun _ => ⟨b, o, rfl, fun i hi => ⟨by rw [h (i * 3) (by omega), cellAt_0], by rw [Nat.add_assoc, h (i * 3 + 1) (by omega), cellAt_1], by rw [Nat.add_assoc, h (i * 3 + 2) (by omega), cellAt_2]⟩⟩⟩

theorem cellAt_one (fs : List Fld) (j : Nat) : (cellAt fs j).oneCell' = true := by
  unfold cellAt
  split
  · rfl
  · split <;> rfl

theorem infoF : (Tryd.prog.info? 26).map (fun i => (i.zero, i.size, i.bytes)) = some (some (.agg #[.int .i64 0, .int .i64 0, .bool false]), 3, 24) := by kernel_rfl

theorem run_appF {P : Program} (w : World) (t ty e : TypeId) (i : TypeInfo) (z : Value) (by_ : Nat) (ht : P.underlying t = some (.slice e)) (hi : P.info? e = some i) (hz : i.zero = some z) (hsize : i.size = 3) (hby : i.bytes = by_) (hzs : z.cells.size = 3)
    (a : Addr) {q : Option Addr} {m d : Nat} {fs : List Fld} (hr : RdF w q m d fs) (hb : m * by_ ≤ 140737488355328) (h63 : m ≤ maxLen) :
    ∃ p' c' w', (Builtin.append_ #[t, t] ty #[.slice (some a) 0 0, .slice q m d]).run P w = .ok (.slice p' m c') w' ∧ RdF w' p' m c' fs ∧ Below w.heap.size w w' := by
  by_cases hm : m = 0
  · subst hm
    exact ⟨some a, 0, w, run_app_zero w t ty e i ht hi (some a) q 0 0 d (Nat.le_refl _), ⟨hr.len, Nat.le_refl _, (fun h => by cases h), fun h => absurd h (Nat.lt_irrefl _)⟩, Below.refl _ _⟩
  · obtain ⟨b, o, rfl, hc⟩ := hr.flat (by omega)
    have hn : ∀ j u, (cellsF fs m)[j]? = some u → w.cell? ((⟨b, o, none⟩ : Addr).add j) = some u := by
      intro j u hj
      have hj' : j < m * 3 := by
        rcases Nat.lt_or_ge j (m * 3) with h | h
        · exact h
        · rw [List.getElem?_eq_none (by simp [cellsF]; omega)] at hj; cases hj
      rw [cellsF_get fs m hj'] at hj
      rw [Addr.add_lit, hc j hj', hj]
    obtain ⟨v', w', h1, h2, h3⟩ := run_append_arg_grows (P := P) w t ty e i z 3 by_ ht hi hz hsize hby hzs (by decide) a 0 0 [] (by simp) (by simp) ⟨b, o, none⟩ m d (cellsF fs m) (by simp [cellsF]) hn (by omega) (by omega) (by rw [Nat.zero_add]; exact hb)
    rw [Nat.zero_add] at h2
    have h2' := h2
    rcases h2.2 with ⟨_, h0⟩ | ⟨g, cap, cur, rfl, hg, hh, hcp, _⟩
    · exact absurd h0 hm
    · refine ⟨_, _, w', h1, RdF.of_flat hr.len hcp fun j hj => ?_, (Below.refl _ _).grown h3 (Nat.le_refl _) fun g hg => by cases hg⟩
      have h4 := h2'.cells (g := g) rfl j (cellAt fs j) (by rw [List.nil_append]; exact cellsF_get fs m hj)
      rw [Addr.add_lit] at h4
      exact h4

theorem wpList_appF {P : Program} (w : World) {ops : Array Oper} {rest : List Oper} {o : Oper} {a : Act} {Q : Exit → Act → World → Prop} (hgd : o.guard = none) (s x : Operand) (t : TypeId)
    (hop : o.op = .call { callee := .builtin .append, args := #[s, x], argTypes := #[t, t] })
    (e : TypeId) (i : TypeInfo) (z : Value) (by_ : Nat) (ht : P.underlying t = some (.slice e)) (hi : P.info? e = some i) (hz : i.zero = some z) (hsize : i.size = 3) (hby : i.bytes = by_) (hzs : z.cells.size = 3)
    (ad : Addr) (hs : a.eval s = .slice (some ad) 0 0) (q : Option Addr) (m d : Nat) (fs : List Fld) (hx : a.eval x = .slice q m d) (hr : RdF w q m d fs) (hb : m * by_ ≤ 140737488355328) (h63 : m ≤ maxLen)
    (h : ∀ p' c' w', RdF w' p' m c' fs → Below w.heap.size w w' → wpList P ops Q rest (a.put o.dst (.slice p' m c')) w') : wpList P ops Q (o :: rest) a w := by
  refine wpList_plain hgd fun K hK => ?_
  obtain ⟨p', c', w', hrun, h1, h2⟩ := run_appF (P := P) w t o.type e i z by_ ht hi hz hsize hby hzs ad hr hb h63
  unfold Oper.wp
  simp [execOp, hop, resolve, invoke, builtin, hs, hx, hrun, Result.andThen]
  exact hK _ _ (h p' c' w' h1 h2)

set_option maxRecDepth 20000 in
set_option maxHeartbeats 1000000 in
theorem cloneF_any (p : Option Addr) (n c : Nat) (fs : List Fld) (w : World) (hr : RdF w p n c fs) (hn : n ≤ 1099511627776) :
    Calls Tryd.prog 7 #[.slice p n c] w fun e w' => ∃ p' c', e = .returned (.slice p' n c') ∧ RdF w' p' n c' fs ∧ Below w.heap.size w w' := by
  have q22 : ∀ (w : World) (a : Option Addr) (n c n' c' : Nat), (binOp .eql 22 (.slice a n c) (.slice none n' c')).run Tryd.prog w = .ok (.bool a.isNone) w := fun w a n c n' c' => Lib.run_eql_slice_nil w _ _ a n c n' c' Tryd.underlying22
  obtain ⟨i0, hi0, hz0, hz1, hz2⟩ := info_parts infoF
  cases p with
  | none =>
    have hn0 : n = 0 := by have := hr.cap; have := hr.nil rfl; omega
    subst hn0
    have hf0 : fs = [] := List.length_eq_zero_iff.1 hr.len
    subst hf0
    have hc0 := hr.nil rfl
    subst hc0
    go_enter Tryd.func7, Tryd.ntmps7
    go_wp2_with fail
    go_ret
    exact ⟨none, 0, rfl, hr, Below.refl _ _⟩
  | some ad =>
    have hra := hr.below ((Below.refl w.heap.size w).alloc (Nat.le_refl _) (.cells #[] 26))
    have hba := (Below.refl w.heap.size w).alloc (Nat.le_refl _) (.cells #[] 26)
    clear hr
    go_enter Tryd.func7, Tryd.ntmps7
    go_wp2_with (refine wpList_appF _ rfl (.tmp 5) (.tmp 6) 22 rfl 26 i0 (.agg #[.int .i64 0, .int .i64 0, .bool false]) 24 Tryd.underlying22 hi0 hz0 hz1 hz2 rfl _ rfl (some ad) n c fs rfl hra ?c1 ?c2 ?_)
    case c1 => omega
    case c2 => unfold maxLen; omega
    intro p' c' w' h1 h2
    go_wp2_with fail
    go_ret
    exact ⟨p', c', rfl, h1, hba.trans (h2.mono (by simp))⟩

set_option maxRecDepth 20000 in
set_option maxHeartbeats 1000000 in
theorem equalF_same (p q : Option Addr) (n c d : Nat) (fs : List Fld) (w : World) (hp : RdF w p n c fs) (hq : RdF w q n d fs) (hn : n ≤ 1099511627776) :
    Calls Tryd.prog 10 #[.slice p n c, .slice q n d] w fun e w' => e = .returned (.bool true) ∧ Below w.heap.size w w' := by
  go_enter Tryd.func10, Tryd.ntmps10
  go_wp2_with fail
  go_loopw [13] (fun i wr => ∃ k : Nat, k ≤ n ∧ i = .int .i64 k ∧ Below w.heap.size w wr) (fun i _ => n - (intOf i).toNat)
  case atStart => exact ⟨0, Nat.zero_le _, rfl, Below.refl _ _⟩
  case round =>
    obtain ⟨k, hk, rfl, hb⟩ := hrel
    by_cases h : k < n
    · obtain ⟨b1, o1, rfl, c1⟩ := (hp.below hb).cells (by omega)
      obtain ⟨b2, o2, rfl, c2⟩ := (hq.below hb).cells (by omega)
      obtain ⟨x1, x2, x3⟩ := c1 k h
      obtain ⟨y1, y2, y3⟩ := c2 k h
      have hk1 : (k : Int) < (n : Int) := by omega
      clear hp hq c1 c2
      generalize fs.getD k .z0 = f at *
      obtain ⟨fb, fv, fsg⟩ := f
      dsimp only at x1 x2 x3 y1 y2 y3
      go_wp2_with fail
      go_quiet (fail)
      go_wp2_with fail
      go_roundw
      case rel => exact ⟨k + 1, by omega, by go_num, below_drewN hb nq⟩
      case measure => simp [intOf]; omega
    · obtain rfl : k = n := by omega
      clear hp hq
      go_wp2_with fail
      go_ret
      exact ⟨rfl, hb⟩

theorem open_fields {H : Type} {enc : TypeId × Value → H} {P : Program} {t e : TypeId} {f0 f1 f2 : Field} (ht : P.underlying t = some (.slice e)) (he : P.underlying e = some (.struct #[f0, f1, f2])) (hce : P.cellsOf e = 3)
    (o0 : f0.offset = 0) (o1 : f1.offset = 1) (o2 : f2.offset = 2) (c0 : P.cellsOf f0.type = 1) (c1 : P.cellsOf f1.type = 1) (c2 : P.cellsOf f2.type = 1) (u0 : P.underlying f0.type = some (.int .i64)) (u1 : P.underlying f1.type = some (.int .i64)) (u2 : P.underlying f2.type = some .bool)
    {W : World} {a : Option Addr} {len cap : Nat} {d : DataW H} {p : List MemPlace}
    (h : DataW.Trod enc P W 0 (fun _ => true) true t (.slice a len cap) d p) : ∃ fs, RdF W a len cap fs ∧ ∀ f ∈ fs, f.ok := by
  obtain ⟨fuel, hf⟩ := h
  rcases Deep.open_slice ht hf with ⟨hcs, _⟩ | ⟨x, l, c, m, n, D, Pl, hcs, _, hl, hm, hmm, _, hx⟩
  · simp [Value.cells] at hcs
    obtain ⟨rfl, rfl, rfl⟩ := hcs
    exact ⟨[], ⟨rfl, Nat.le_refl _, fun _ => rfl, fun h => absurd h (Nat.lt_irrefl _)⟩, fun x hx => by cases hx⟩
  · simp [Value.cells] at hcs
    obtain ⟨rfl, rfl, rfl⟩ := hcs
    simp only [if_true] at hmm
    subst hmm
    have each : ∀ i, i < m → ∃ f : Fld, W.cell? (x.add (i * 3)) = some (.int .i64 f.b) ∧ W.cell? (x.add (i * 3 + 1)) = some (.int .i64 f.v) ∧ W.cell? (x.add (i * 3 + 2)) = some (.bool f.s) ∧ f.ok := by
      intro i hi
      obtain ⟨cs', h1, h2⟩ := hx i hi
      rw [hce] at h1
      obtain ⟨_, hlen, hcell⟩ := World.cells?_some h1
      obtain ⟨xs, k, hk, hxy, _, hxl, hff⟩ := DataW.trod_struct he h2
      match xs, hxl, cs', hlen with
      | [y0, y1, y2], _, [v0, v1, v2], _ =>
        have g0 := hff 0 f0 rfl
        have g1 := hff 1 f1 rfl
        have g2 := hff 2 f2 rfl
        simp [o0, o1, o2, c0, c1, c2] at g0 g1 g2
        obtain ⟨z0, e0, _, w0⟩ := DataW.trod_int u0 g0
        obtain ⟨z1, e1, _, w1⟩ := DataW.trod_int u1 g1
        obtain ⟨z2, e2, _⟩ := DataW.trod_bool u2 g2
        simp at e0 e1 e2
        subst e0 e1 e2
        have q0 := hcell 0 (by omega)
        have q1 := hcell 1 (by omega)
        have q2 := hcell 2 (by omega)
        rw [Deep.add_add] at q0 q1 q2
        exact ⟨⟨z0, z1, z2⟩, by simpa using q0, by simpa using q1, by simpa using q2, i64_bounds w0, i64_bounds w1⟩
    obtain ⟨f, hfv⟩ := @Deep.choose_lt Fld ⟨.z0⟩ _ _ each
    refine ⟨(List.range len).map f, ⟨by simp, hl, (fun h => by cases h), fun hn => ?_⟩, fun g hg => ?_⟩
    · obtain ⟨b, o, spot⟩ := x
      have h0 := (hfv 0 (by omega)).1
      have hspot : spot = none := by simpa [Addr.add] using World.cell?_spot h0
      subst hspot
      refine ⟨b, o, rfl, fun i hi => ?_⟩
      obtain ⟨k0, k1, k2, _⟩ := hfv i (by omega)
      rw [Addr.add_lit] at k0 k1 k2
      have e : ((List.range len).map f).getD i .z0 = f i := by rw [List.getD_eq_getElem?_getD, List.getElem?_map, List.getElem?_range hi]; rfl
      rw [e]
      exact ⟨k0, by rw [Nat.add_assoc]; exact k1, by rw [Nat.add_assoc]; exact k2⟩
    · obtain ⟨i, hi, rfl⟩ := List.mem_map.1 hg
      exact (hfv i (by have := List.mem_range.1 hi; omega)).2.2.2

end Go.Proofs.YtddekakihandeaaDoor.M
