/-
  Own text: two Nets that lie apart; a list of calls of the call's own; the document's Net behind a list of calls.
-/
import Derived.Test.YtmnipfdcbmamnaaXTwo
namespace Go.Proofs.Ytmnipfdcbmamnaa.M
open Go.ChangeShapes Go.WideShapes Go.ChangeAt Go.RowKit Go.ChangeMaps Go.MapKept Go.Maps

/-- The blocks of a Net. -/
def Own (g b : Nat) (N : Int → Int → List ByteArray) (R : Int → Int → Value) (k : Nat) : Prop := k = g ∨ k = b ∨ ∃ x y, N x y ≠ [] ∧ (R x y).ownBlock = some k

theorem Own.lt {Z : Nat → Prop} {w : World} {B g b n side : Nat} {lost : Int} {N : Int → Int → List ByteArray} {R : Int → Int → Value} (h : NB Z w B g b n side lost N R) {k : Nat} (hk : Own g b N R k) : k < w.heap.size := by
  rcases hk with rfl | rfl | ⟨x, y, hn, hk⟩
  · exact h.blk.lt
  · exact h.map.lt
  · exact (World.ownsRow.lt (h.rows x y hn) k hk).2

theorem Own.not {Z : Nat → Prop} {w : World} {B g b n side : Nat} {lost : Int} {N : Int → Int → List ByteArray} {R : Int → Int → Value} (h : NB Z w B g b n side lost N R) {k : Nat} (hk : Own g b N R k) : ¬ Z k := by
  rcases hk with rfl | rfl | ⟨x, y, hn, hk⟩
  · exact h.zz.2.1.1
  · exact h.zz.2.1.2
  · exact h.zz.2.2 x y hn k hk

/-- A Net, with its blocks named. -/
structure NR (Z : Nat → Prop) (w : World) (B g b n : Nat) (m : PN) (R : Int → Int → Value) : Prop where
  nb : NB Z w B g b n m.side m.lost m.N R
  few : ∀ x y, (m.N x y).length ≤ 8
  sd : m.side < 18446744073709551616
  lo : 0 ≤ m.lost ∧ m.lost ≤ n

theorem NR.nm {Z : Nat → Prop} {w : World} {B g b n : Nat} {m : PN} {R : Int → Int → Value} (h : NR Z w B g b n m R) : NM Z w B g b n m := ⟨⟨R, h.nb⟩, h.few, h.sd, h.lo⟩

/-- Two Nets, neither of which has a block of the other one. -/
def Pair (w : World) (B g b n : Nat) (m : PN) (B2 g2 b2 n2 : Nat) (m2 : PN) : Prop := ∃ R R2, NR (Own g2 b2 m2.N R2) w B g b n m R ∧ NR (Own g b m.N R) w B2 g2 b2 n2 m2 R2

theorem NR.own {Z Z2 : Nat → Prop} {w : World} {B g b n g2 b2 B2 n2 : Nat} {m m2 : PN} {R R2 : Int → Int → Value} (h : NR Z w B2 g2 b2 n2 m2 R2) (h1 : NR Z2 w B g b n m R) (hz : ∀ k, Own g2 b2 m2.N R2 k → ¬ Own g b m.N R k) : NR (Own g b m.N R) w B2 g2 b2 n2 m2 R2 :=
  ⟨h.nb.rez ⟨fun _ hk => Own.lt h1.nb hk, ⟨hz _ (Or.inl rfl), hz _ (Or.inr (Or.inl rfl))⟩, fun x y hn k hk => hz k (Or.inr (Or.inr ⟨x, y, hn, hk⟩))⟩, h.few, h.sd, h.lo⟩

theorem Pair.swap {w : World} {B g b n : Nat} {m : PN} {B2 g2 b2 n2 : Nat} {m2 : PN} (h : Pair w B g b n m B2 g2 b2 n2 m2) : Pair w B2 g2 b2 n2 m2 B g b n m := by
  obtain ⟨R, R2, h1, h2⟩ := h
  exact ⟨R2, R, h2, h1⟩

theorem Pair.below {w w' : World} {B g b n : Nat} {m : PN} {B2 g2 b2 n2 : Nat} {m2 : PN} (h : Pair w B g b n m B2 g2 b2 n2 m2) (hb : Below w.heap.size w w') : Pair w' B g b n m B2 g2 b2 n2 m2 := by
  obtain ⟨R, R2, h1, h2⟩ := h
  exact ⟨R, R2, ⟨h1.nb.below hb, h1.few, h1.sd, h1.lo⟩, ⟨h2.nb.below hb, h2.few, h2.sd, h2.lo⟩⟩

theorem Pair.fst {w : World} {B g b n : Nat} {m : PN} {B2 g2 b2 n2 : Nat} {m2 : PN} (h : Pair w B g b n m B2 g2 b2 n2 m2) : ∃ Z, NM Z w B g b n m := by
  obtain ⟨R, R2, h1, h2⟩ := h
  exact ⟨_, h1.nm⟩

/-- A call on the first leaves the second as it is. -/
theorem Pair.does {w : World} {B g b n : Nat} {m : PN} {B2 g2 b2 n2 : Nat} {m2 : PN} (h : Pair w B g b n m B2 g2 b2 n2 m2) (hn : n ≤ 1000) (op i x y : Int) (bq : Option Addr) (bl bc : Nat) (s : Int) (xb : List Int) (hk : Nd.rd w (⟨op, i, x, y, bq, bl, bc, s, xb⟩ : Nd)) :
    Calls Try.prog 10 #[.pointer (some ⟨g, 0, none⟩), .agg #[.int .i64 op, .int .i64 i, .int .i64 x, .int .i64 y, .slice bq bl bc, .int .u64 s]] w fun o w' => (∃ v, o = .returned v) ∧ Pair w' B g b (n + 1) (m.step (⟨op, i, x, y, bq, bl, bc, s, xb⟩ : Nd)).1 B2 g2 b2 n2 m2 ∧ Below B w w' := by
  obtain ⟨R, R2, h1, h2⟩ := h
  refine (does_any h1.nm hn op i x y bq bl bc s xb hk).mono ?_
  rintro o w' ⟨⟨p, mm, c, rfl, _⟩, ⟨⟨R', h3⟩, h4, h5, h6⟩, hF⟩
  refine ⟨⟨_, rfl⟩, ⟨R', R2, ⟨h3, h4, h5, h6⟩, ?_⟩, hF.bel⟩
  have hk : ∀ k, Own g2 b2 m2.N R2 k → w'.heap[k]? = w.heap[k]? := fun k hk => hF.zk k hk (Own.lt h2.nb hk)
  have h7 : NR (Own g b m.N R) w' B2 g2 b2 n2 m2 R2 := ⟨h2.nb.same hF.sz (hk _ (Or.inl rfl)) (hk _ (Or.inr (Or.inl rfl))) (fun x y hn k hk2 => hk k (Or.inr (Or.inr ⟨x, y, hn, hk2⟩))), h2.few, h2.sd, h2.lo⟩
  exact h7.own (n := n + 1) (Z2 := Own g2 b2 m2.N R2) ⟨h3, h4, h5, h6⟩ fun k hk1 hk2 => Own.not h3 hk2 hk1

/-- Behind the clone. -/
theorem Pair.clone {w : World} {B g b n : Nat} {m : PN} (h : NM (fun _ => False) w B g b n m) (hl : Lks m) :
    Calls Try.prog 22 #[.pointer (some ⟨g, 0, none⟩)] w fun o w' => ∃ v, o = .returned v ∧ ∃ g2 b2, v = .pointer (some ⟨g2, 0, none⟩) ∧ Pair w' B g b n m w.heap.size g2 b2 n m ∧ Below w.heap.size w w' := by
  obtain ⟨⟨R, h1⟩, h2, h3, h4⟩ := h
  refine (Clone_any h1 h2 hl).mono ?_
  rintro o w' ⟨v, rfl, g2, b2, R2, rfl, hc, hb⟩
  have k1 : NR (fun _ => False) w' B g b n m R := ⟨h1.below hb, h2, h3, h4⟩
  have k2 : NR (fun _ => False) w' w.heap.size g2 b2 n m R2 := ⟨hc, h2, h3, h4⟩
  have hlow : ∀ k, Own g b m.N R k → k < w.heap.size := fun k hk => Own.lt h1 hk
  have hhigh : ∀ k, Own g2 b2 m.N R2 k → w.heap.size ≤ k := fun k hk => by
    rcases hk with rfl | rfl | ⟨x, y, hn, hk⟩
    · exact hc.lo.1
    · exact hc.lo.2
    · exact (World.ownsRow.lt (hc.rows x y hn) k hk).1
  exact ⟨_, rfl, g2, b2, rfl, ⟨R, R2, k1.own k2 fun k a1 a2 => by have := hlow k a1; have := hhigh k a2; omega, k2.own k1 fun k a1 a2 => by have := hlow k a2; have := hhigh k a1; omega⟩, hb⟩

/-- A Net behind a list of calls. -/
def plN (m : PN) : List Nd → PN
  | [] => m
  | k :: l => plN (m.step k).1 l

theorem plN_app : ∀ (a b : List Nd) (m : PN), plN m (a ++ b) = plN (plN m a) b
  | [], _, _ => rfl
  | k :: a, b, m => plN_app a b (m.step k).1

theorem plN_take {ls : List Nd} {j : Nat} (h : j < ls.length) (m : PN) : plN m (ls.take (j + 1)) = ((plN m (ls.take j)).step (ls.getD j .z0)).1 := by
  have e : ls.take (j + 1) = ls.take j ++ [ls.getD j .z0] := by
    rw [List.take_add_one, List.getD_eq_getElem?_getD, List.getElem?_eq_getElem h]
    rfl
  rw [e, plN_app]
  rfl

theorem plN_lks : ∀ (l : List Nd) {m : PN}, Lks m → Lks (plN m l)
  | [], _, h => h
  | k :: l, _, h => plN_lks l (h.step k)

theorem act_lost (m : PN) (z : Int) (k : Nd) : m.lost ≤ (m.act z k).1.lost ∧ (m.act z k).1.lost ≤ m.lost + 1 := by
  unfold PN.act
  repeat' split
  all_goals dsimp only
  all_goals omega

theorem plN_lost : ∀ (l : List Nd) (m : PN), m.lost ≤ (plN m l).lost ∧ (plN m l).lost ≤ m.lost + l.length
  | [], m => ⟨Int.le_refl _, by show m.lost ≤ m.lost + ((0 : Nat) : Int); omega⟩
  | k :: l, m => by
    have h1 := plN_lost l (m.step k).1
    have h2 := act_lost m (wrap64 ((IntKind.u64.wrap k.op).tmod 9)) k
    have h3 : (m.step k).1 = (m.act (wrap64 ((IntKind.u64.wrap k.op).tmod 9)) k).1 := rfl
    rw [← h3] at h2
    have h4 : plN m (k :: l) = plN (m.step k).1 l := rfl
    rw [h4, List.length_cons]
    omega

/-- The cells of a call. -/
def ndC (z : Nd) : List Value := [.int .i64 z.op, .int .i64 z.i, .int .i64 z.x, .int .i64 z.y, .slice z.bq z.bl z.bc, .int .u64 z.s]

def cellsN : List Nd → List Value
  | [] => []
  | t :: l => ndC t ++ cellsN l

theorem cellsN_len : ∀ l : List Nd, (cellsN l).length = l.length * 6
  | [] => rfl
  | t :: l => by
    show (ndC t ++ cellsN l).length = _
    rw [List.length_append, cellsN_len l, List.length_cons]
    show 6 + l.length * 6 = _
    omega

theorem cellsN_app : ∀ a b : List Nd, cellsN (a ++ b) = cellsN a ++ cellsN b
  | [], _ => rfl
  | t :: a, b => by
    show ndC t ++ cellsN (a ++ b) = (ndC t ++ cellsN a) ++ cellsN b
    rw [cellsN_app a b, List.append_assoc]

theorem cellsN_get : ∀ (l : List Nd) (i r : Nat), i < l.length → r < 6 → (cellsN l)[i * 6 + r]? = (ndC (l.getD i .z0))[r]?
  | [], _, _, h, _ => absurd h (Nat.not_lt_zero _)
  | t :: l, 0, r, _, hr => by
    show (ndC t ++ cellsN l)[0 * 6 + r]? = (ndC t)[r]?
    rw [Nat.zero_mul, Nat.zero_add, List.getElem?_append_left (show r < (ndC t).length from hr)]
  | t :: l, i + 1, r, h, hr => by
    show (ndC t ++ cellsN l)[(i + 1) * 6 + r]? = (ndC (l.getD i .z0))[r]?
    rw [List.getElem?_append_right (by show 6 ≤ _; omega), show (i + 1) * 6 + r - (ndC t).length = i * 6 + r by show (i + 1) * 6 + r - 6 = _; omega]
    exact cellsN_get l i r (by rw [List.length_cons] at h; omega) hr

theorem ndC_one {l : List Nd} : ∀ u ∈ cellsN l, u.oneCell' = true := by
  induction l with
  | nil => intro u hu; cases hu
  | cons t l ih =>
    intro u hu
    have hu' : u ∈ ndC t ++ cellsN l := hu
    rcases List.mem_append.1 hu' with h | h
    · unfold ndC at h
      simp only [List.mem_cons, List.not_mem_nil, or_false] at h
      rcases h with rfl | rfl | rfl | rfl | rfl | rfl <;> rfl
    · exact ih u h

theorem RdN.nth {w : World} {b o n c : Nat} {ls : List Nd} (hr : RdN w (some ⟨b, o, none⟩) n c ls) : ∀ j u, (cellsN ls)[j]? = some u → w.cell? ((⟨b, o, none⟩ : Addr).add j) = some u := by
  intro j u hj
  have hj' : j < n * 6 := by
    rcases Nat.lt_or_ge j (n * 6) with h | h
    · exact h
    · rw [List.getElem?_eq_none (by rw [cellsN_len, hr.len]; exact h)] at hj; cases hj
  obtain ⟨b', o', e, hc⟩ := hr.cells (by omega)
  cases e
  have hi : j / 6 < n := by omega
  obtain ⟨k0, k1, k2, k3, k4, k5⟩ := hc (j / 6) hi
  rw [Addr.add_lit]
  have hd : j = j / 6 * 6 + j % 6 := by omega
  rw [hd, cellsN_get ls (j / 6) (j % 6) (by rw [hr.len]; exact hi) (Nat.mod_lt _ (by decide))] at hj
  rcases (show j % 6 = 0 ∨ j % 6 = 1 ∨ j % 6 = 2 ∨ j % 6 = 3 ∨ j % 6 = 4 ∨ j % 6 = 5 by omega) with h | h | h | h | h | h
  · rw [h] at hj; cases hj; rw [show o + j = o + j / 6 * 6 by omega]; exact k0
  · rw [h] at hj; cases hj; rw [show o + j = o + j / 6 * 6 + 1 by omega]; exact k1
  · rw [h] at hj; cases hj; rw [show o + j = o + j / 6 * 6 + 2 by omega]; exact k2
  · rw [h] at hj; cases hj; rw [show o + j = o + j / 6 * 6 + 3 by omega]; exact k3
  · rw [h] at hj; cases hj; rw [show o + j = o + j / 6 * 6 + 4 by omega]; exact k4
  · rw [h] at hj; cases hj; rw [show o + j = o + j / 6 * 6 + 5 by omega]; exact k5

/-- A list of calls of the call's own. -/
def OwN (w : World) (B : Nat) (v : Value) (ls : List Nd) : Prop := w.ownsRow B 37 6 v ls.length (cellsN ls)

theorem OwN.nil (w : World) (B : Nat) : OwN w B (.slice none 0 0) [] := ⟨rfl, Or.inl ⟨rfl, rfl⟩⟩

theorem OwN.below {w w' : World} {B : Nat} {v : Value} {ls : List Nd} (h : OwN w B v ls) (hb : Below w.heap.size w w') : OwN w' B v ls := ownsRow_below h hb

theorem OwN.rd {w : World} {B : Nat} {v : Value} {ls : List Nd} (h : OwN w B v ls) (hr : ∀ j, j < ls.length → (ls.getD j .z0).rd w) : ∃ q c, v = .slice q ls.length c ∧ RdN w q ls.length c ls := by
  have h' : w.ownsRow B 37 6 v ls.length (cellsN ls) := h
  rcases h.2 with ⟨rfl, h2⟩ | ⟨g, cap, cur, rfl, hg, hh, hc, _, hs, _⟩
  · exact ⟨none, 0, by rw [h2], rfl, (fun h => by omega), hr⟩
  · refine ⟨_, _, rfl, rfl, fun _ => ⟨g, 0, rfl, fun i hi => ?_⟩, hr⟩
    have hcell : ∀ r, r < 6 → ∀ u, (ndC (ls.getD i .z0))[r]? = some u → w.cell? ⟨g, i * 6 + r, none⟩ = some u := fun r hr u hu => by
      have h4 := World.ownsRow.cells h' (g := g) rfl (i * 6 + r) u (by rw [cellsN_get ls i r hi hr]; exact hu)
      rw [Addr.add_lit, Nat.zero_add] at h4
      exact h4
    rw [Nat.zero_add]
    exact ⟨hcell 0 (by decide) _ rfl, hcell 1 (by decide) _ rfl, hcell 2 (by decide) _ rfl, hcell 3 (by decide) _ rfl, hcell 4 (by decide) _ rfl, hcell 5 (by decide) _ rfl⟩

theorem infoNd : (Try.prog.info? 37).map (fun i => (i.zero, i.size, i.bytes)) = some (some (.agg #[.int .i64 0, .int .i64 0, .int .i64 0, .int .i64 0, .slice none 0 0, .int .u64 0]), 6, 64) := by kernel_rfl

theorem wpList_appN (w : World) {ops : Array Oper} {rest : List Oper} {o : Oper} {a : Act} {Q : Exit → Act → World → Prop} (hgd : o.guard = none) (s x : Operand)
    (hop : o.op = .call { callee := .builtin .append, args := #[s, x], argTypes := #[22, 22] })
    (B : Nat) (v : Value) (A : List Nd) (hs : a.eval s = v) (ho : OwN w B v A) (q : Option Addr) (m d : Nat) (L : List Nd) (hx : a.eval x = .slice q m d) (hr : RdN w q m d L) (hqd : q = none → d = 0 ∧ m = 0) (hA : A.length ≤ 1000000) (hm : m ≤ 1000000) (hB : B ≤ w.heap.size)
    (h : ∀ v' w', OwN w' B v' (A ++ L) → Below B w w' → wpList Try.prog ops Q rest (a.put o.dst v') w') : wpList Try.prog ops Q (o :: rest) a w := by
  obtain ⟨i, hi, hz, hsize, hby⟩ : ∃ i, Try.prog.info? 37 = some i ∧ i.zero = some (.agg #[.int .i64 0, .int .i64 0, .int .i64 0, .int .i64 0, .slice none 0 0, .int .u64 0]) ∧ i.size = 6 ∧ i.bytes = 64 := by
    have := infoNd
    cases hq : Try.prog.info? 37 with
    | none => rw [hq] at this; cases this
    | some i =>
      rw [hq] at this
      simp only [Option.map_some, Option.some.injEq, Prod.mk.injEq] at this
      exact ⟨i, rfl, this.1, this.2.1, this.2.2⟩
  have hU : Try.prog.underlying 22 = some (.slice 37) := Try.underlying22
  refine wpList_plain hgd fun K hK => ?_
  cases q with
  | none =>
    obtain ⟨rfl, rfl⟩ := hqd rfl
    have hL : L = [] := List.eq_nil_of_length_eq_zero hr.len
    subst hL
    have hrun := run_append_owned_none (P := Try.prog) (w := w) B 22 o.type 37 i 6 hU hi v A.length (cellsN A) ho
    have h1 := h v w (by rw [List.append_nil]; exact ho) (Below.refl _ _)
    unfold Oper.wp
    simp [execOp, hop, resolve, invoke, builtin, hs, hx, hrun, Result.andThen]
    exact hK _ _ h1
  | some ad =>
    have hnth : ∀ j u, (cellsN L)[j]? = some u → w.cell? (ad.add j) = some u := by
      by_cases h0 : 0 < m
      · obtain ⟨b, o, e, _⟩ := hr.cells h0
        cases e
        exact hr.nth
      · intro j u hj
        have hL : L = [] := List.eq_nil_of_length_eq_zero (by rw [hr.len]; omega)
        subst hL
        cases hj
    obtain ⟨v', w', hrun, h2, h3, _⟩ := run_append_own (P := Try.prog) (w := w) B 22 o.type 37 i _ 6 64 hU hi hz hsize hby (by rfl) (by decide) v A.length (cellsN A) ho ad m d (cellsN L) (by rw [cellsN_len, hr.len]) hnth ndC_one (by unfold maxLen; omega) (by omega) hB
    have h1 : OwN w' B v' (A ++ L) := by
      unfold OwN
      rw [cellsN_app, List.length_append, hr.len]
      exact h2
    have hb : Below B w w' := (Below.refl B w).grown h3 hB fun r hr => by
      rcases ho.2 with ⟨rfl, _⟩ | ⟨g', cap, cur, rfl, hg', _⟩
      · cases hr
      · cases hr; exact hg'
    have h5 := h v' w' h1 hb
    unfold Oper.wp
    simp [execOp, hop, resolve, invoke, builtin, hs, hx, hrun, Result.andThen]
    exact hK _ _ h5

end Go.Proofs.Ytmnipfdcbmamnaa.M
