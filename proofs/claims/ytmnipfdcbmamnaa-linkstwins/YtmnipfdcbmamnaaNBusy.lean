/-
  Own text: the keys of the map of links, gathered: maps.Keys, slices.AppendSeq, slices.Collect at links.
-/
import Derived.Test.YtmnipfdcbmamnaaNForget
import Derived.RangeFuncNested
import Derived.RangeFuncBound
import Derived.RangeFuncCalls
import Derived.RangeFuncLeaves
import Derived.Shelf.Abstract
import Derived.Shelf.RegionOpen
import Derived.Maps.AppendAt
import Derived.WalkKit
import Derived.OwnWalkIn
import Derived.TacticsInMore
import Derived.LoopNIn
import Derived.LoopIn
namespace Go.Proofs.Ytmnipfdcbmamnaa.M
open Go.ChangeShapes Go.WideShapes Go.ChangeAt Go.RowKit Go.ChangeMaps Go.MapKept Go.Maps Go.Shelf
attribute [local go_sem] Oper.semAt_some

/-- A link as a value, and many as cells. -/
def encL (x : Int × Int) : Value := lkV x.1 x.2
def cellsL : List (Int × Int) → List Value
  | [] => []
  | x :: l => .int .i64 x.1 :: .int .i64 x.2 :: cellsL l

theorem cellsL_snoc (x : Int × Int) : ∀ l : List (Int × Int), cellsL (l ++ [x]) = cellsL l ++ [.int .i64 x.1, .int .i64 x.2]
  | [] => rfl
  | y :: l => by
    show Value.int .i64 y.1 :: .int .i64 y.2 :: cellsL (l ++ [x]) = _
    rw [cellsL_snoc x l]
    rfl

theorem cellsL_len : ∀ l : List (Int × Int), (cellsL l).length = l.length * 2
  | [] => rfl
  | y :: l => by
    show (cellsL l).length + 1 + 1 = (l.length + 1) * 2
    rw [cellsL_len l]
    omega

theorem encL_inj {x y : Int × Int} (h : encL x = encL y) : x = y := by
  obtain ⟨h1, h2⟩ := lkV_inj h
  exact Prod.ext h1 h2

/-- A map, and one who goes through it, to whom these came. -/
def RangeAll (P : Program) (k : TypeId) (w : World) (b r n : Nat) (f : Value → Option Value) (ss : List (Int × Int)) : Prop :=
  ∃ es clock seen, w.heap[r]? = some (.mapIter (some b) clock seen clock) ∧ w.heap[b]? = some (.map es clock) ∧ (Stamped es clock ∧ es.size ≤ n) ∧ Ent P k es.toList ∧ (∀ key l, keyOf P k key = some l → Stands es.toList key (f key)) ∧
    (∀ x ∈ es.toList, seen.contains x.born = true ↔ ∃ s ∈ ss, x.key = encL s) ∧ ss.Nodup ∧ (∀ s ∈ ss, ∃ v, f (encL s) = some v) ∧ ss.length + (leftOf es seen).size ≤ es.size

section
variable {P : Program} {k t e : TypeId} {w : World} {b r n : Nat} {f : Value → Option Value} {ss : List (Int × Int)}

theorem RangeAll.lt (h : RangeAll P k w b r n f ss) : b < w.heap.size ∧ r < w.heap.size ∧ b ≠ r := by
  obtain ⟨es, clock, seen, h1, h2, _⟩ := h
  refine ⟨(Array.getElem?_eq_some_iff.1 h2).1, (Array.getElem?_eq_some_iff.1 h1).1, fun he => ?_⟩
  rw [he, h1] at h2
  cases h2

theorem RangeAll.walks {w' : World} (h : RangeAll P k w b r n f ss) (hk : KeepsWalks w w') : RangeAll P k w' b r n f ss ∧ leftN w' b r = leftN w b r := by
  obtain ⟨es, clock, seen, h1, h2, h3⟩ := h
  have q1 := hk.same r _ h1 rfl
  have q2 := hk.same b _ h2 rfl
  exact ⟨⟨es, clock, seen, q1, q2, h3⟩, by unfold leftN; rw [q1, q2, h1, h2]⟩

theorem RangeAll.iter (h : RangeAll P k w b r n f ss) : ∃ o : Obj, w.heap[r]? = some o ∧ o.isWalk = true := by
  obtain ⟨es, clock, seen, h1, _⟩ := h
  exact ⟨_, h1, rfl⟩

theorem MapIs.rangeAll (h : MapIs P k w b n f) (ht : P.underlying t = some (.map k e)) :
    ∃ o, (Instr.range t (.map (some b))).run P w = .ok (.pointer (some ⟨w.heap.size, 0, none⟩)) (w.alloc o) ∧ RangeAll P k (w.alloc o) b w.heap.size n f [] := by
  obtain ⟨es, clock, h1, h2, h3, h4⟩ := h
  refine ⟨_, run_range_map w t k e b es clock ht h1, es, clock, #[], heap_alloc_new _ _, ?_, h2, h3, h4, fun x _ => ?_, List.nodup_nil, (fun s hs => by cases hs), ?_⟩
  · rw [heap_alloc_old _ _ (Array.getElem?_eq_some_iff.1 h1).1]; exact h1
  · simp
  · unfold leftOf
    rw [List.length_nil, Nat.zero_add]
    exact Array.size_filter_le

theorem RangeAll.next (h : RangeAll P k w b r n f ss) (hf : ∀ key v, f key = some v → ∃ s, key = encL s) (ty : TypeId) :
    ((Instr.next (.pointer (some ⟨r, 0, none⟩)) false ty).run P w = .ok (.tuple #[.bool false]) w ∧ ∀ s l v, keyOf P k (encL s) = some l → f (encL s) = some v → s ∈ ss) ∨
    ∃ s val w1, f (encL s) = some val ∧ (Instr.next (.pointer (some ⟨r, 0, none⟩)) false ty).run P w = .ok (.tuple #[.bool true, encL s, val]) w1 ∧
      RangeAll P k w1 b r n f (ss ++ [s]) ∧ leftN w1 b r < leftN w b r ∧ ss.length < n ∧ w.grownBy w1 (some r) ∧
      (Instr.entry (.pointer (some ⟨r, 0, none⟩))).run P w1 = .ok (.tuple #[encL s, val]) w1 := by
  have hlt := h.lt
  obtain ⟨es, clock, seen, h1, h2, ⟨hst, hn⟩, E, S, hD, hnd, hin2, hcnt⟩ := h
  have hin : ∀ x ∈ es.toList, ∀ l, keyOf P k x.key = some l → f x.key = some x.val := by
    intro x hx l hl
    have s := S x.key l hl
    cases hf : f x.key with
    | none => rw [hf] at s; exact absurd rfl (s x hx)
    | some v =>
      rw [hf] at s
      obtain ⟨e1, m1, m2, m3⟩ := s
      rw [← m3, E.one m1 hx m2]
  rcases run_next_at (P := P) w ty r b clock clock seen es clock h1 h2 hst.1 (Nat.le_refl _) with ⟨h0, hrun⟩ | ⟨e0, he0, wd, hwd, hrun⟩
  · refine Or.inl ⟨hrun, fun s l v hk hf => ?_⟩
    have st := S (encL s) l hk
    rw [hf] at st
    obtain ⟨e1, m1, m2, _⟩ := st
    obtain ⟨s2, hs2, e2⟩ := (hD e1 m1).1 (all_seen es seen h0 e1 m1)
    rw [m2] at e2
    rw [encL_inj e2]
    exact hs2
  · obtain ⟨hm, hns⟩ := mem_left he0
    obtain ⟨l, hl⟩ := E.keys e0 hm
    have hfv := hin e0 hm l hl
    obtain ⟨s, hs⟩ := hf _ _ hfv
    rw [hs] at hfv
    have hwh : wd.heap = w.heap ∧ wd.os = w.os ∧ wd.tape = w.tape ∧ wd.output = w.output := by rcases hwd with rfl | rfl <;> exact ⟨rfl, rfl, rfl, rfl⟩
    have hrl : r < wd.heap.size := by rw [hwh.1]; exact hlt.2.1
    have q1 : (setBlock wd r (.mapIter (some b) clock (seen.push e0.born) clock)).heap[r]? = some (.mapIter (some b) clock (seen.push e0.born) clock) := heap_setBlock wd r _ hrl
    have q2 : ∀ i, i ≠ r → (setBlock wd r (.mapIter (some b) clock (seen.push e0.born) clock)).heap[i]? = w.heap[i]? := fun i hi => by rw [heap_setBlock_ne wd r i _ hi, hwh.1]
    have q3 := (q2 b hlt.2.2).trans h2
    have hnew : s ∉ ss := fun hmem => by
      have h5 := (hD e0 hm).2 ⟨s, hmem, hs⟩
      rw [h5] at hns
      cases hns
    have hsh := left_shrinks es seen e0 he0
    rw [hs] at hrun
    refine Or.inr ⟨s, e0.val, _, hfv, hrun, ⟨es, clock, _, q1, q3, ⟨hst, hn⟩, E, S, fun x hx => ?_, ?_, ?_, ?_⟩, ?_, by omega, ⟨hwh.2.1, hwh.2.2.1, hwh.2.2.2, by simp [setBlock, hwh.1], fun i _ hi => q2 i (fun e => hi (by rw [e]))⟩, ?_⟩
    · rw [contains_push]
      constructor
      · intro hc
        rcases Bool.or_eq_true_iff.1 hc with hc | hc
        · obtain ⟨s2, h3, h4⟩ := (hD x hx).1 hc
          exact ⟨s2, List.mem_append_left _ h3, h4⟩
        · exact ⟨s, List.mem_append_right _ (List.mem_singleton.2 rfl), by rw [born_inj hst.2.1 hx hm (eq_of_beq hc)]; exact hs⟩
      · rintro ⟨s2, h3, h4⟩
        rcases List.mem_append.1 h3 with h3 | h3
        · rw [(hD x hx).2 ⟨s2, h3, h4⟩]; rfl
        · have e1 := List.mem_singleton.1 h3
          rw [e1, ← hs] at h4
          rw [E.one hx hm h4]
          simp
    · rw [List.nodup_append]
      exact ⟨hnd, by simp, fun a ha c hc => by rw [List.mem_singleton.1 hc]; exact fun e => hnew (e ▸ ha)⟩
    · intro s2 h3
      rcases List.mem_append.1 h3 with h3 | h3
      · exact hin2 s2 h3
      · rw [List.mem_singleton.1 h3]; exact ⟨_, hfv⟩
    · rw [List.length_append, List.length_singleton]
      omega
    · unfold leftN
      rw [q1, q3, h1, h2]
      exact hsh
    · have := run_entry_at (P := P) (setBlock wd r (.mapIter (some b) clock (seen.push e0.born) clock)) r b clock seen es clock e0 q1 q3 hm hst.2.1
      rw [hs] at this
      exact this

end

/-- What is told when a map's keys came. -/
def KeysL (nn : Nat) (f : Value → Option Value) (ss : List (Int × Int)) : Prop := ss.Nodup ∧ (∀ s ∈ ss, ∃ v, f (encL s) = some v) ∧ (∀ s l v, keyOf Try.prog 33 (encL s) = some l → f (encL s) = some v → s ∈ ss) ∧ ss.length ≤ nn

set_option maxRecDepth 100000 in
set_option maxHeartbeats 4000000 in
theorem keysL_stops (F : Fence) (n : Nat) (hK : F.fn 54) (hro : F.round = none) (hn : 1 ≤ n) (Bm b nn : Nat) (f : Value → Option Value) (hf : ∀ key v, f key = some v → ∃ s, key = encL s) (w : World) (hBm : Bm < w.heap.size)
    (hm : w.cell? ⟨Bm, 0, none⟩ = some (.map (some b))) (hmap : MapIs Try.prog 33 w b nn f) :
    SeqStopsK F n Try.prog 54 #[.pointer (some ⟨Bm, 0, none⟩)] (fun x : Int × Int => #[encL x]) KeepsWalks (KeysL nn f) (fun _ => True) nn w := fun l J Jx W hW hJ _ hY h0 => by
  have hmW : W.cell? ⟨Bm, 0, none⟩ = some (.map (some b)) := (hW.cell (p := ⟨Bm, 0, none⟩) hBm).trans hm
  have hmapW : MapIs Try.prog 33 W b nn f := hmap.kept (hW.block b hmap.lt)
  obtain ⟨o, hrun0, hrg⟩ := hmapW.rangeAll mapT
  have hJ0 : J [] (W.alloc o) := hJ [] W _ none h0 (World.grownBy_alloc W o none) (fun r e => by cases e)
  have Hf : Hid (∀ key v, f key = some v → ∃ s, key = encL s) := hf
  have HY : Hid (∀ pre x W1, J pre W1 → pre.length < nn → YieldAt F (n - 1) Try.prog l #[encL x] W1 fun e W' => (e = .returned (.bool true) ∧ J (pre ++ [x]) W' ∧ KeepsWalks W1 W') ∨ (e = .returned (.bool false) ∧ Jx (pre ++ [x]) W')) := hY
  have HJ : Hid (AbidesFrom W.heap.size J) := hJ
  clear hY hJ hf hmap hmapW hm hBm hW
  refine callsIn_of_wp Try.func54 rfl hK ?_ hro
  simp only [Try.ntmps54, List.size_toArray, List.length_cons, List.length_nil, Nat.reduceAdd, Nat.reduceSub, Array.replicate_succ, Array.replicate_zero, List.push_toArray, List.append_toArray, List.nil_append, List.cons_append]
  gi_wp2
  generalize (W.alloc o) = w0 at *
  obtain ⟨r, hr⟩ : ∃ r, r = W.heap.size := ⟨_, rfl⟩
  rw [← hr] at hrg ⊢
  have HJ2 : Hid (AbidesFrom r J) := by rw [hr]; exact HJ.out
  clear hrun0 hmW hr HJ
  gi_loopw [3] (fun _ wr => ∃ ss, RangeAll Try.prog 33 wr b r nn f ss ∧ J ss wr) (fun _ wr => leftN wr b r)
  case atStart => exact ⟨[], hrg, hJ0⟩
  case round =>
    clear hrg hJ0 h0
    obtain ⟨ss, hrg, hJs⟩ := hrel
    rcases hrg.next Hf.out 0 with ⟨hrun, hend⟩ | ⟨s, val, w1, hfv, hrun, hrg1, hlv, hlen, hg1, hent⟩
    · gi_wp2
      go_end0
      exact ⟨⟨_, rfl⟩, Or.inl ⟨ss, ⟨by obtain ⟨_, _, _, _, _, _, _, _, _, h8, _⟩ := hrg; exact h8, by obtain ⟨_, _, _, _, _, _, _, _, _, _, h9, _⟩ := hrg; exact h9, hend, by obtain ⟨_, _, _, _, _, ⟨_, h6⟩, _, _, _, _, _, h10⟩ := hrg; omega⟩, hJs⟩⟩
    · have hJ1 : J ss w1 := HJ2.out ss wr w1 (some r) hJs hg1 (fun q e => by cases e; exact ⟨Nat.le_refl _, hrg.iter⟩)
      have hJ2 : J ss (w1.alloc (.cells #[.int .i64 s.1, .int .i64 s.2] 33)) := HJ2.out ss w1 _ none hJ1 (World.grownBy_alloc w1 _ none) (fun q e => by cases e)
      obtain ⟨fn, tmps, assign, body, hy, hR⟩ := HY.out ss s _ hJ2 hlen
      have hAt := At.new 33 w1 #[.int .i64 s.1, .int .i64 s.2]
      obtain ⟨a0, a1⟩ := hAt.two
      have hk2 := hrg1.walks (KeepsWalks.alloc w1 (.cells #[.int .i64 s.1, .int .i64 s.2] 33))
      obtain ⟨LN, HLN⟩ : ∃ z, Hid (leftN wr b r = z) := ⟨_, rfl⟩
      have hlv2 : leftN (w1.alloc (.cells #[.int .i64 s.1, .int .i64 s.2] 33)) b r < LN := by rw [hk2.2, ← HLN.out]; exact hlv
      have Hrg2 : Hid (RangeAll Try.prog 33 (w1.alloc (.cells #[.int .i64 s.1, .int .i64 s.2] 33)) b r nn f (ss ++ [s])) := hk2.1
      unfold encL lkV at hrun hent hy
      clear hJ1 hJ2 hAt hk2 hrg1 hg1 hlv hrg hJs hfv
      gi_wp2
      refine hR.mono ?_
      rintro e W3 (⟨rfl, hJ3, hk3⟩ | ⟨rfl, hJx3⟩)
      · have hrg3 := Hrg2.out.walks hk3
        clear hR hy a0 a1 hrun hent
        gi_wp2
        go_roundw
        case rel => exact ⟨ss ++ [s], hrg3.1, hJ3⟩
        case measure => rw [hrg3.2, HLN.out]; exact hlv2
      · clear hR hy a0 a1 hrun hent
        gi_wp2
        refine bodyPost_ret (results_none rfl _ _ _) rfl ?_
        exact ⟨⟨_, rfl⟩, Or.inr ⟨ss ++ [s], trivial, hJx3⟩⟩

end Go.Proofs.Ytmnipfdcbmamnaa.M
