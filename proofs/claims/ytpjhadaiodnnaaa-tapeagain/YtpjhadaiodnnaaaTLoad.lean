/-
  Own text: the reel that a file's bytes begin with, in plain words; the contract of load.
-/
import Derived.Test.YtpjhadaiodnnaaaTWith
import Derived.Test.YtpjhadaiodnnaaaAll
import Derived.Test.YtpjhadaiodnnaaaNAt
namespace Go.Proofs.Ytpjhadaiodnnaaa.M
open Go.ChangeShapes Go.WideShapes Go.ChangeAt Go.RowKit

/-- A reel in plain words. -/
structure PR where
  gen : Int
  base : List Int
  recs : List (List Int)

def PR.z0 : PR := ⟨0, [], []⟩

/-- The reel that bytes begin with, and whether they are nothing else. -/
def ldR (xs : List Int) : PR × Bool :=
  if (allR xs).1 = [] then (.z0, false)
  else if endR (bR 8176 (wL 0 (wL 1 ((allR xs).1.getD 0 [], 0)).2).2).2 = 0 ∧ (wL 0 (wL 1 ((allR xs).1.getD 0 [], 0)).2).1 ≤ ((allR xs).1.length : Int) - 1 then
    (⟨(wL 1 ((allR xs).1.getD 0 [], 0)).1, (bR 8176 (wL 0 (wL 1 ((allR xs).1.getD 0 [], 0)).2).2).1, (allR xs).1.drop 1⟩, decide ((allR xs).2 = xs.length))
  else (.z0, false)

theorem RdS.ex {w w' : World} {B g : Nat} {s : List Int × Nat} (h : RdS w g s) (hb : Below B w w') (hg : g < B) : RdS w' g s := by
  obtain ⟨p, n, c, h⟩ := h
  exact ⟨p, n, c, h.below hb hg⟩

theorem RdV.tail {w : World} {p : Option Addr} {n c : Nat} {vs : List Value} (h : RdV w p n c vs) (h0 : 0 < n) : ∃ b o, p = some ⟨b, o, none⟩ ∧ RdV w (if c = 1 then some ⟨b, o, none⟩ else some ⟨b, o + 1, none⟩) (n - 1) (c - 1) (vs.drop 1) := by
  obtain ⟨b, o, rfl, hc⟩ := h.cells h0
  have hcap := h.cap
  refine ⟨b, o, rfl, by rw [List.length_drop, h.len], by omega, fun e => ?_, fun h1 => ?_⟩
  · split at e <;> cases e
  · rw [if_neg (by omega)]
    refine ⟨b, o + 1, rfl, fun i hi => ?_⟩
    have := hc (1 + i) (by omega)
    rw [show o + 1 + i = o + (1 + i) by omega, this, List.getD_eq_getElem?_getD, List.getD_eq_getElem?_getD, List.getElem?_drop]

/-- A slice of values that can be read; with room it lies in a row of its owner's, from block B on. -/
structure OwG (e : TypeId) (w : World) (B : Nat) (p : Option Addr) (n c : Nat) (vs : List Value) : Prop where
  rd : RdV w p n c vs
  own : 0 < c → ∃ b o cur, p = some ⟨b, o, none⟩ ∧ B ≤ b ∧ At e w b cur ∧ o + c ≤ cur.size

theorem OwG.len {e w B p n c vs} (h : OwG e w B p n c vs) : vs.length = n := h.rd.len
theorem OwG.cap {e w B p n c vs} (h : OwG e w B p n c vs) : n ≤ c := h.rd.cap

theorem OwV.g {e w B p n c vs} (h : OwV e w B p n c vs) : OwG e w B p n c vs :=
  ⟨h.rd, fun h0 => by
    rcases h.own with ⟨_, h1⟩ | h1
    · omega
    · rcases h1.2 with ⟨hv, _⟩ | ⟨g, cap, cur, hv, hg, hh, hc, hm, hs, ht⟩
      · injection hv with _ _ e3
        omega
      · injection hv with e1 e2 e3
        subst e1
        subst e3
        exact ⟨g, 0, cur, rfl, hg, hh, by omega⟩⟩

theorem OwG.ltC {e : TypeId} {w : World} {B n c : Nat} {p : Option Addr} {vs : List Value} (h : OwG e w B p n c vs) (x : Addr) (ex : p = some x) (h0 : 0 < c) : B ≤ x.block ∧ x.block < w.heap.size := by
  obtain ⟨b, o, cur, e1, hB, hA, _⟩ := h.own h0
  rw [ex] at e1
  cases e1
  exact ⟨hB, hA.lt⟩

theorem OwG.below {e w w' B p n c vs} (h : OwG e w B p n c vs) (hb : Below w.heap.size w w') : OwG e w' B p n c vs :=
  ⟨h.rd.below hb, fun h0 => by obtain ⟨b, o, cur, e1, h1, h2, h3⟩ := h.own h0; exact ⟨b, o, cur, e1, h1, h2.below hb, h3⟩⟩

theorem OwG.empty (e : TypeId) (w : World) (B : Nat) : OwG e w B none 0 0 [] := ⟨⟨rfl, Nat.le_refl _, fun _ => rfl, fun h => absurd h (Nat.lt_irrefl _)⟩, fun h => absurd h (Nat.lt_irrefl _)⟩

theorem OwG.lowerB {e : TypeId} {w : World} {B B' n c : Nat} {p : Option Addr} {vs : List Value} (h : OwG e w B p n c vs) (hB : B' ≤ B) : OwG e w B' p n c vs :=
  ⟨h.rd, fun h0 => by obtain ⟨b, o, cur, e1, h1, h2, h3⟩ := h.own h0; exact ⟨b, o, cur, e1, by omega, h2, h3⟩⟩

/-- All but the first one. -/
theorem OwG.tail {e : TypeId} {w : World} {B n c : Nat} {p : Option Addr} {vs : List Value} (h : OwG e w B p n c vs) (h0 : 0 < n) : ∃ b o, p = some ⟨b, o, none⟩ ∧ OwG e w B (if c = 1 then some ⟨b, o, none⟩ else some ⟨b, o + 1, none⟩) (n - 1) (c - 1) (vs.drop 1) := by
  obtain ⟨b, o, e1, hR⟩ := h.rd.tail h0
  have hcap := h.rd.cap
  refine ⟨b, o, e1, hR, fun h1 => ?_⟩
  obtain ⟨b2, o2, cur, e2, hB, hA, hl⟩ := h.own (by omega)
  rw [e1] at e2
  cases e2
  rw [if_neg (by omega)]
  exact ⟨b, o + 1, cur, rfl, hB, hA, by omega⟩

/-- A reel's value, all its memory its own from block B on. -/
def ReV (w : World) (B : Nat) (v : Value) (r : PR) : Prop := ∃ pb nb cb pr cr vs, v = .agg #[.int .i64 r.gen, .slice pb nb cb, .slice pr r.recs.length cr] ∧ Ow .u8 5 w B pb nb cb r.base ∧ OwG 22 w B pr r.recs.length cr vs ∧ Slo 5 w B vs r.recs

theorem Sls.tail {w : World} {vs : List Value} {xss : List (List Int)} (h : Sls w vs xss) : Sls w (vs.drop 1) (xss.drop 1) :=
  ⟨by rw [List.length_drop, List.length_drop, h.1], fun i hi => by
    rw [List.length_drop] at hi
    obtain ⟨q, m, d, e, hr⟩ := h.2 (1 + i) (by omega)
    refine ⟨q, m, d, ?_, ?_⟩
    · rw [← e, List.getD_eq_getElem?_getD, List.getD_eq_getElem?_getD, List.getElem?_drop]
    · rw [List.getD_eq_getElem?_getD, List.getElem?_drop, ← List.getD_eq_getElem?_getD]
      exact hr⟩

theorem Slo.tail {u : TypeId} {w : World} {B : Nat} {vs : List Value} {xss : List (List Int)} (h : Slo u w B vs xss) : Slo u w B (vs.drop 1) (xss.drop 1) :=
  ⟨by rw [List.length_drop, List.length_drop, h.1], fun i hi => by
    rw [List.length_drop] at hi
    obtain ⟨q, m, d, e, hr⟩ := h.2 (1 + i) (by omega)
    refine ⟨q, m, d, ?_, ?_⟩
    · rw [← e, List.getD_eq_getElem?_getD, List.getD_eq_getElem?_getD, List.getElem?_drop]
    · rw [List.getD_eq_getElem?_getD, List.getElem?_drop, ← List.getD_eq_getElem?_getD]
      exact hr⟩

theorem Slo.lower {u : TypeId} {w : World} {B B' : Nat} {vs : List Value} {xss : List (List Int)} (h : Slo u w B vs xss) (hB : B' ≤ B) : Slo u w B' vs xss :=
  ⟨h.1, fun i hi => by
    obtain ⟨q, m, d, e, hr⟩ := h.2 i hi
    exact ⟨q, m, d, e, hr.lower hB⟩⟩

theorem Ex.grown {w w' : World} {g : Nat} (h : Ex g w w') : w.grownBy w' (some g) := ⟨h.os, h.tape, h.output, h.size, fun k hk hne => h.block k hk (fun e => hne (by rw [e]))⟩

theorem Slo.exn {u : TypeId} {w w' : World} {B g : Nat} {vs : List Value} {xss : List (List Int)} (h : Slo u w B vs xss) (he : Ex g w w') (hB : g < B) : Slo u w' B vs xss :=
  ⟨h.1, fun i hi => by
    obtain ⟨q, m, d, e, hr⟩ := h.2 i hi
    exact ⟨q, m, d, e, hr.kept he.grown hB⟩⟩

theorem allR_by (xs : List Int) (hx : By xs) : ∀ i, i < (allR xs).1.length → By ((allR xs).1.getD i []) ∧ ((allR xs).1.getD i []).length ≤ 8192 := by
  have key : ∀ f (ys : List Int), By ys → ∀ i, i < (allF f ys).1.length → By ((allF f ys).1.getD i []) ∧ ((allF f ys).1.getD i []).length ≤ 8192 := by
    intro f
    induction f with
    | zero => intro ys _ i hi; exact absurd hi (Nat.not_lt_zero _)
    | succ f ih =>
      intro ys hy i hi
      unfold allF at hi ⊢
      by_cases h : (openR ys).2.2 = 0
      · rw [if_pos h] at hi ⊢
        obtain ⟨_, _, h3, h4⟩ := openR_room hy h
        cases i with
        | zero => exact ⟨h3, h4⟩
        | succ i => exact ih _ (fun x hx => hy x (List.mem_of_mem_drop hx)) i (by simpa using hi)
      · rw [if_neg h] at hi
        exact absurd hi (Nat.not_lt_zero _)
  exact key _ xs hx

theorem allR_few (xs : List Int) (hx : By xs) : (allR xs).1.length ≤ xs.length := by
  have key : ∀ f (ys : List Int), By ys → (allF f ys).1.length ≤ ys.length := by
    intro f
    induction f with
    | zero => intro ys _; exact Nat.zero_le _
    | succ f ih =>
      intro ys hy
      unfold allF
      by_cases h : (openR ys).2.2 = 0
      · rw [if_pos h]
        obtain ⟨h1, h2, _, _⟩ := openR_room hy h
        have := ih (ys.drop (openR ys).2.1) (fun x hx => hy x (List.mem_of_mem_drop hx))
        rw [List.length_drop] at this
        show ((openR ys).1 :: (allF f (ys.drop (openR ys).2.1)).1).length ≤ _
        rw [List.length_cons]
        omega
      · rw [if_neg h]
        exact Nat.zero_le _
  exact key _ xs hx

end Go.Proofs.Ytpjhadaiodnnaaa.M
