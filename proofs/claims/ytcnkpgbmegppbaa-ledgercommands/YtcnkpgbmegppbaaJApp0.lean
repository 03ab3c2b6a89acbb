/-
  Own text: what Apply makes of a ledger, in plain words; a ledger's memory behind its stores.
-/
import Derived.Test.YtcnkpgbmegppbaaJLed
import Derived.ArgAppend
import Derived.Deep.MidRow
namespace Go.Proofs.Ytcnkpgbmegppbaa.M
open Go.ChangeShapes Go.WideShapes Go.ChangeAt Go.RowKit

/-- A changed chain's parts. -/
def CRe : CR → Int
  | .error _ => 0
  | .ok (e, _) => e
def CRm : CR → List Mb
  | .error _ => []
  | .ok (_, ms) => ms
def CRk : CR → Int
  | .error k => k
  | .ok _ => 0

theorem Told.rd {B : Nat} {w : World} {v : Value} {R : CR} (h : Told B w v R) : ∃ q c, v = .tuple #[.agg #[.int .i64 (CRe R), .slice q (CRm R).length c], .int .i64 (CRk R)] ∧ (∀ a, q = some a → 0 < (CRm R).length → B ≤ a.block) ∧ RdM w q (CRm R).length c (CRm R) := by
  match R, h with
  | .error k, h => exact ⟨none, 0, h, fun _ _ h => absurd h (Nat.lt_irrefl _), rfl, Nat.le_refl _, fun _ => rfl, fun h => absurd h (Nat.lt_irrefl _)⟩
  | .ok (e, ms), ⟨q, c, h1, h3, h2⟩ => exact ⟨q, c, h1, h3, h2⟩

theorem cutR_err {pr : Mb → Bool} {e k : Int} {ms : List Mb} (h : cutR pr e ms = .error k) : k ≠ 0 := by
  unfold cutR at h
  repeat' split at h
  all_goals first | (cases h; done) | (injection h with h; omega)

theorem joinR_err {m : Mb} {e k : Int} {ms : List Mb} (h : joinR e ms m = .error k) : k ≠ 0 := by
  unfold joinR at h
  repeat' split at h
  all_goals first | (cases h; done) | (injection h with h; omega)

theorem againR_err {nd e k : Int} {ms : List Mb} (h : againR e ms nd = .error k) : k ≠ 0 := by
  unfold againR at h
  repeat' split at h
  all_goals first | (cases h; done) | (injection h with h; omega)

theorem readyR_err {nd e k : Int} {ms : List Mb} (h : readyR e ms nd = .error k) : k ≠ 0 := by
  unfold readyR at h
  repeat' split at h
  all_goals first | (cases h; done) | (injection h with h; omega)

theorem chR_err {k nd st e er : Int} {ms : List Mb} (h : chR k nd st e ms = .error er) : er ≠ 0 := by
  unfold chR at h
  repeat' split at h
  · exact cutR_err h
  · exact cutR_err h
  · exact joinR_err h
  · exact againR_err h
  · exact readyR_err h

/-- A ledger in plain words. -/
structure PL where
  e : Int
  ms : List Mb
  at_ : Int
  H : List (Int × List Mb)

/-- .. behind a command that may change it. -/
def PL.ch (s : PL) (i : Int) : CR → Int × PL
  | .error er => (er, { s with at_ := i })
  | .ok (e', ms') => (0, ⟨e', ms', i, if s.e < e' then s.H ++ [(e', ms')] else s.H⟩)

/-- .. behind a command. -/
def PL.cmd (s : PL) (i : Int) : Option (Int × Int × Int × Int) → Int × PL
  | none => (120, { s with at_ := i })
  | some (k, nd, st, ep) => if ep = s.e then s.ch i (chR k nd st s.e s.ms) else (150, { s with at_ := i })

/-- What Apply answers, and what the ledger is then. -/
def PL.app (s : PL) (i : Int) (xs : List Int) : Int × PL :=
  if i = s.at_ + 1 ∧ i ≤ 1099511627776 then (if xs = [] then (0, { s with at_ := i }) else s.cmd i (getR xs)) else (90, s)

def HE.ch (h : HE) : Int × List Mb := (h.e, h.ms)

/-- A ledger in block g that is this in plain words. -/
def LP (w : World) (g r : Nat) (s : PL) : Prop := ∃ bc x H, LB w g r bc x s.at_ H ∧ x.ch = (s.e, s.ms) ∧ H.map HE.ch = s.H

theorem LP.below {w w' : World} {g r : Nat} {s : PL} (h : LP w g r s) (hb : Below w.heap.size w w') : LP w' g r s := by
  obtain ⟨bc, x, H, h1, h2⟩ := h
  exact ⟨bc, x, H, h1.below hb, h2⟩

/-- A store into the ledger's own block. -/
theorem LB.setg {w w' : World} {g r bc : Nat} {x x' : HE} {at_ at' : Int} {H : List HE} (h : LB w g r bc x at_ H) (hx : Ex g w w')
    (hA : At 82 w' g #[.slice (some ⟨r, 0, none⟩) H.length bc, .int .i64 x'.e, .slice x'.p x'.n x'.c, .int .i64 at']) (hn : x'.rd w' g r) : LB w' g r bc x' at' H := by
  have h2 : Ex2 g r w w' := ⟨hx.os, hx.tape, hx.output, hx.size, fun k hk hg _ => hx.block k hk hg⟩
  refine ⟨hA, ⟨h.row.1, ?_⟩, h.ne, hn, fun y hy => (h.old y hy).ex2 h2, h.pos⟩
  rcases h.row.2 with h4 | ⟨g', cap, cur, hv, hg, hh, r3⟩
  · exact Or.inl h4
  · have : r = g' := by injection hv with e1; injection e1 with e1; injection e1
    subst this
    exact Or.inr ⟨r, cap, cur, hv, hg, by rw [hx.block r h.lr h.ne]; exact hh, r3⟩

theorem LB.setAt {w : World} {g r bc : Nat} {x : HE} {at_ : Int} {H : List HE} (h : LB w g r bc x at_ H) (i : Int) : LB (w.setCell ⟨g, 3, none⟩ (.int .i64 i)) g r bc x i H := by
  have he : Ex g w (w.setCell ⟨g, 3, none⟩ (.int .i64 i)) := (Ex.refl _ _).setCell 3 _
  refine h.setg he ?_ (h.now.ex2 ⟨he.os, he.tape, he.output, he.size, fun k hk hg _ => he.block k hk hg⟩)
  have := h.blk
  unfold At at *
  exact heap_setCell_same w g 3 _ _ _ this

theorem LB.setNow {w : World} {g r bc : Nat} {x x' : HE} {at_ : Int} {H : List HE} (h : LB w g r bc x at_ H) (hx : x'.rd w g r) : LB ((w.setCell ⟨g, 1, none⟩ (.int .i64 x'.e)).setCell ⟨g, 2, none⟩ (.slice x'.p x'.n x'.c)) g r bc x' at_ H := by
  have he : Ex g w ((w.setCell ⟨g, 1, none⟩ (.int .i64 x'.e)).setCell ⟨g, 2, none⟩ (.slice x'.p x'.n x'.c)) := ((Ex.refl _ _).setCell 1 _).setCell 2 _
  refine h.setg he ?_ (hx.ex2 ⟨he.os, he.tape, he.output, he.size, fun k hk hg _ => he.block k hk hg⟩)
  have := h.blk
  unfold At at *
  exact heap_setCell_same _ g 2 _ _ _ (heap_setCell_same w g 1 _ _ _ this)

/-- What an append has done to a row in block r. -/
def Grew (w w' : World) (r r' : Nat) : Prop := (r' = r ∧ w.grownBy w' (some r)) ∨ (w.heap.size ≤ r' ∧ w.grownBy w' none)

theorem Grew.ex2 {w w' : World} {g r r' : Nat} (h : Grew w w' r r') : Ex2 g r w w' := by
  rcases h with ⟨_, h⟩ | ⟨_, h⟩
  · exact ⟨h.os, h.tape, h.output, h.size, fun k hk _ hr => h.block k hk (fun e => hr (Option.some.inj e))⟩
  · exact ⟨h.os, h.tape, h.output, h.size, fun k hk _ _ => h.block k hk (fun e => by cases e)⟩

theorem Grew.or {w w' : World} {r r' : Nat} (h : Grew w w' r r') : r' = r ∨ w.heap.size ≤ r' := by
  rcases h with ⟨h, _⟩ | ⟨h, _⟩
  · exact Or.inl h
  · exact Or.inr h

theorem rd_lt {w : World} {p : Option Addr} {n c : Nat} {ms : List Mb} (h : RdM w p n c ms) {a : Addr} (ha : p = some a) (h0 : 0 < n) : a.block < w.heap.size := by
  obtain ⟨b, o, hp, hc⟩ := h.cells h0
  rw [ha] at hp
  cases hp
  exact World.block_lt_of_cell? _ _ (hc 0 h0).1

theorem HE.rd.grew {w w' : World} {g r r' : Nat} {h : HE} (hh : h.rd w g r) (hg : Grew w w' r r') : h.rd w' g r' := by
  refine ⟨hh.1.ex2 hg.ex2 hh.2, fun a ha h0 => ⟨(hh.2 a ha h0).1, fun e => ?_⟩⟩
  rcases hg.or with e1 | e1
  · exact (hh.2 a ha h0).2 (e.trans e1)
  · have := rd_lt hh.1 ha h0
    omega

theorem cellsH_snoc (H : List HE) (h : HE) : cellsH (H ++ [h]) = cellsH H ++ h.cs := by simp [cellsH]

theorem run_appC (w : World) (ty : TypeId) (i : TypeInfo) (z : Value) (hi : Try.prog.info? 42 = some i) (hz : i.zero = some z) (hsize : i.size = 2) (hby : i.bytes = 32) (hzs : z.cells.size = 2)
    (r bc : Nat) (H : List HE) (ho : w.ownsRow 0 42 2 (.slice (some ⟨r, 0, none⟩) H.length bc) H.length (cellsH H)) (y d : Nat) (h : HE)
    (c0 : w.cell? ⟨y, 0, none⟩ = some (.int .i64 h.e)) (c1 : w.cell? ⟨y, 1, none⟩ = some (.slice h.p h.n h.c)) (hl : H.length ≤ 1099511627776) :
    ∃ r' bc' w', (Builtin.append_ #[78, 78] ty #[.slice (some ⟨r, 0, none⟩) H.length bc, .slice (some ⟨y, 0, none⟩) 1 d]).run Try.prog w = .ok (.slice (some ⟨r', 0, none⟩) (H.length + 1) bc') w' ∧
      w'.ownsRow 0 42 2 (.slice (some ⟨r', 0, none⟩) (H.length + 1) bc') (H.length + 1) (cellsH (H ++ [h])) ∧ Grew w w' r r' := by
  have hn : ∀ j u, h.cs[j]? = some u → w.cell? ((⟨y, 0, none⟩ : Addr).add j) = some u := by
    intro j u hj
    rw [Addr.add_lit, Nat.zero_add]
    match j, hj with
    | 0, hj => cases hj; exact c0
    | 1, hj => cases hj; exact c1
  have h1 : ∀ u ∈ h.cs, u.oneCell' = true := by
    intro u hu
    simp only [HE.cs, List.mem_cons, List.not_mem_nil, or_false] at hu
    rcases hu with rfl | rfl <;> rfl
  have h63 : H.length + 1 ≤ maxLen := by unfold maxLen; omega
  rcases Nat.lt_or_ge bc (H.length + 1) with hlt | hge
  · obtain ⟨v', w', g1, g2, g3⟩ := run_append_arg_grows (P := Try.prog) w 78 ty 42 i z 2 32 Try.underlying78 hi hz hsize hby hzs (by decide) ⟨r, 0, none⟩ H.length bc (cellsH H) (cellsH_len H) (World.ownsRow.cells ho rfl) ⟨y, 0, none⟩ 1 d h.cs rfl hn hlt h63 (by omega)
    rcases g2.2 with ⟨_, hv⟩ | ⟨g', cap, cur, rfl, hb, rest⟩
    · omega
    · exact ⟨g', cap, w', g1, ⟨by rw [cellsH_snoc]; exact g2.1, Or.inr ⟨g', cap, cur, rfl, Nat.zero_le _, by rw [cellsH_snoc]; exact rest⟩⟩, Or.inr ⟨hb, g3⟩⟩
  · obtain ⟨w', g1, g2, g3⟩ := run_append_own_spare (P := Try.prog) w 0 78 ty 42 i 2 Try.underlying78 hi hsize r H.length bc _ ho ⟨y, 0, none⟩ 1 d h.cs rfl hn h1 hge
    exact ⟨r, bc, w', g1, by rw [cellsH_snoc]; exact g2, Or.inl ⟨rfl, g3⟩⟩

/-- A ledger behind the append of a chain, its row stored. -/
theorem LB.grew {w w' : World} {g r r' bc bc' : Nat} {x y : HE} {at_ : Int} {H : List HE} (h : LB w g r bc x at_ H) (hg : Grew w w' r r') (ho : w'.ownsRow 0 42 2 (.slice (some ⟨r', 0, none⟩) (H.length + 1) bc') (H.length + 1) (cellsH (H ++ [y]))) (hy : y.rd w g r) :
    LB (w'.setCell ⟨g, 0, none⟩ (.slice (some ⟨r', 0, none⟩) (H.length + 1) bc')) g r' bc' x at_ (H ++ [y]) := by
  have hne : r' ≠ g := by
    rcases hg.or with e | e
    · rw [e]; exact h.ne
    · have := h.blk.lt; omega
  have hA : At 82 w' g #[.slice (some ⟨r, 0, none⟩) H.length bc, .int .i64 x.e, .slice x.p x.n x.c, .int .i64 at_] := by
    have h0 := h.blk
    unfold At at *
    rcases hg with ⟨_, h2⟩ | ⟨_, h2⟩
    · rw [h2.block g h.blk.lt (fun e => h.ne (Option.some.inj e).symm)]; exact h0
    · rw [h2.block g h.blk.lt (fun e => by cases e)]; exact h0
  have he : Ex g w' (w'.setCell ⟨g, 0, none⟩ (.slice (some ⟨r', 0, none⟩) (H.length + 1) bc')) := (Ex.refl _ _).setCell 0 _
  have h2 : Ex2 g r' w' (w'.setCell ⟨g, 0, none⟩ (.slice (some ⟨r', 0, none⟩) (H.length + 1) bc')) := ⟨he.os, he.tape, he.output, he.size, fun k hk hg _ => he.block k hk hg⟩
  have hlen : (H ++ [y]).length = H.length + 1 := by simp
  refine ⟨?_, ?_, hne, (h.now.grew hg).ex2 h2, fun u hu => ?_, by rw [hlen]; omega⟩
  · rw [hlen]
    unfold At at *
    exact heap_setCell_same _ g 0 _ _ _ hA
  · rw [hlen]
    refine ⟨ho.1, ?_⟩
    rcases ho.2 with h4 | ⟨g', cap, cur, hv, hg, hh, r3⟩
    · exact Or.inl h4
    · have : r' = g' := by injection hv with e1; injection e1 with e1; injection e1
      subst this
      exact Or.inr ⟨r', cap, cur, hv, hg, by rw [he.block r' (Array.getElem?_eq_some_iff.1 hh).1 hne]; exact hh, r3⟩
  · rcases List.mem_append.1 hu with hu | hu
    · exact ((h.old u hu).grew hg).ex2 h2
    · rw [List.mem_singleton.1 hu]
      exact (hy.grew hg).ex2 h2

end Go.Proofs.Ytcnkpgbmegppbaa.M
