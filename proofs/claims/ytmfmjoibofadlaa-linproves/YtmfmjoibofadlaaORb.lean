/-
  Own text: slices.Backward of places: the iterator's contract.
-/
import Derived.Test.YtmfmjoibofadlaaOVs
import Derived.RangeFuncNested
import Derived.RangeFuncBound
import Derived.RangeFuncCalls
import Derived.RangeFuncLeaves
import Derived.Shelf.Abstract
import Derived.Shelf.RegionOpen
import Derived.WalkKit
import Derived.OwnWalkIn
import Derived.TacticsInMore
import Derived.LoopNIn
import Derived.LoopIn
namespace Go.Proofs.Ytmfmjoibofadlaa.M
open Go.ChangeShapes Go.WideShapes Go.ChangeAt Go.RowKit Go.Shelf
attribute [local go_sem] Oper.semAt_some
set_option linter.unusedSimpArgs false

/-- What has come when so many rounds are over. -/
def upTo {α : Type} (f : Nat → α) (k : Nat) : List α := (List.range k).map f
theorem upTo_succ {α : Type} (f : Nat → α) (k : Nat) : upTo f (k + 1) = upTo f k ++ [f k] := by simp [upTo, List.range_succ]
theorem upTo_length {α : Type} (f : Nat → α) (k : Nat) : (upTo f k).length = k := by simp [upTo]

/-- What a round keeps: two blocks' cells. -/
def KeepB (s b : Nat) (A B : World) : Prop := ∀ a : Addr, a.block = s ∨ a.block = b → B.cell? a = A.cell? a
theorem KeepB.refl (s b : Nat) (A : World) : KeepB s b A A := fun _ _ => rfl
theorem KeepB.trans {s b : Nat} {A B C : World} (h : KeepB s b A B) (k : KeepB s b B C) : KeepB s b A C := fun a ha => (k a ha).trans (h a ha)

/-- The place that comes in round k, from the last one down. -/
def dn {n : Nat} (y : Nat → Ix n) (m k : Nat) : Nat × Ix n := (m - 1 - k, y (m - 1 - k))

def enc2 {n : Nat} (x : Nat × Ix n) : Array Value := #[.int .i64 (x.1 : Int), .int .i64 (x.2.1 : Int)]

set_option maxRecDepth 100000 in
set_option maxHeartbeats 2000000 in
theorem back_in {nn : Nat} (F : Fence) (n : Nat) (h7 : F.fn 60) (hro : F.round = none) (hn : 1 ≤ n) (l Bs b off m d : Nat) (q : Option Addr) (y : Nat → Ix nn) (hm : m ≤ 1000) (hq : 0 < m → q = some ⟨b, off, none⟩) (J Jx : List (Nat × Ix nn) → World → Prop)
    (hY : ∀ pre x W, J pre W → pre.length < m → YieldAt F (n - 1) Try.prog l (enc2 x) W fun e W' =>
      (e = .returned (.bool true) ∧ J (pre ++ [x]) W' ∧ KeepB Bs b W W') ∨ (e = .returned (.bool false) ∧ Jx (pre ++ [x]) W'))
    (W : World) (hBs : W.cell? ⟨Bs, 0, none⟩ = some (.slice q m d)) (hc : ∀ j, j < m → W.cell? ⟨b, off + j, none⟩ = some (.int .i64 ((y j).1 : Int))) (h0 : J [] W) :
    CallsIn F n Try.prog 60 #[.func (.yield l) #[] #[], .pointer (some ⟨Bs, 0, none⟩)] W fun e W' => (∃ v, e = .returned v) ∧
      ((∃ ys, ys = upTo (dn y m) m ∧ J ys W') ∨ (∃ pre, (∃ k, k ≤ m ∧ pre = upTo (dn y m) k) ∧ Jx pre W')) := by
  refine callsIn_of_wp Try.func60 rfl h7 ?_ hro
  simp only [Try.ntmps60, List.size_toArray, List.length_cons, List.length_nil, Nat.reduceAdd, Nat.reduceSub, Array.replicate_succ, Array.replicate_zero, List.push_toArray, List.append_toArray, List.nil_append, List.cons_append]
  gi_wp2
  gi_loopw [3] (fun i wr => ∃ (r : Nat) (z : Int), r ≤ m ∧ i = .int .i64 z ∧ z = (r : Int) - 1 ∧ J (upTo (dn y m) (m - r)) wr ∧ KeepB Bs b W wr)
    (fun i _ => (intOf i + 1).toNat)
  case atStart => exact ⟨m, (m : Int) - 1, Nat.le_refl _, by first | rfl | go_num, rfl, by rw [Nat.sub_self]; exact h0, KeepB.refl _ _ _⟩
  case round =>
    obtain ⟨r, z, hr, rfl, hz, hJs, hnx⟩ := hrel
    have hB1 : wr.cell? ⟨Bs, 0, none⟩ = some (.slice q m d) := (hnx ⟨Bs, 0, none⟩ (Or.inl rfl)).trans hBs
    cases r with
    | zero =>
      have hzz : z = -1 := by omega
      subst hzz
      rw [Nat.sub_zero] at hJs
      clear hz
      gi_wp2
      go_end0
      exact ⟨⟨_, rfl⟩, .inl ⟨_, rfl, hJs⟩⟩
    | succ j =>
      have hzz : z = (j : Int) := by omega
      subst hzz
      obtain rfl := hq (by omega)
      have hcx : wr.cell? ⟨b, off + j, none⟩ = some (.int .i64 ((y j).1 : Int)) := (hnx ⟨b, off + j, none⟩ (Or.inr rfl)).trans (hc j (by omega))
      obtain ⟨fn, tmps, assign, body, hy, hR⟩ := hY _ (j, y j) wr hJs (by rw [upTo_length]; omega)
      unfold enc2 at hy
      dsimp only at hy
      have hjm : (j : Int) < (m : Int) := by omega
      have hj0 : (0 : Int) ≤ (j : Int) := by omega
      have hstep : upTo (dn y m) (m - (j + 1)) ++ [(j, y j)] = upTo (dn y m) (m - j) := by
        rw [show m - j = (m - (j + 1)) + 1 by omega, upTo_succ]
        congr 2
        unfold dn
        rw [show m - 1 - (m - (j + 1)) = j by omega]
      clear hz
      gi_wp2
      refine hR.mono ?_
      rintro e W3 (⟨rfl, hJ3, hk3⟩ | ⟨rfl, hJx3⟩)
      · rw [hstep] at hJ3
        gi_wp2
        go_roundw
        case rel => exact ⟨j, (j : Int) - 1, by omega, by first | rfl | go_num, rfl, hJ3, hnx.trans hk3⟩
        case measure => simp [intOf]
      · rw [hstep] at hJx3
        gi_wp2
        refine bodyPost_ret (results_none rfl _ _ _) rfl ?_
        exact ⟨⟨_, rfl⟩, .inr ⟨_, ⟨m - j, by omega, rfl⟩, hJx3⟩⟩

set_option maxHeartbeats 1000000 in
theorem backm_in (F : Fence) (n : Nat) (h5 : F.fn 51) (hro : F.round = none) (a : Option Addr) (len cap : Nat) (w : World) :
    CallsIn F n Try.prog 51 #[.slice a len cap] w fun e w' => e = .returned (.func (.func 60) #[] #[.pointer (some ⟨w.heap.size, 0, none⟩)]) ∧ w' = w.alloc (.cells #[.slice a len cap] 30) := by
  refine callsIn_of_wp Try.func51 rfl h5 ?_ hro
  simp only [Try.ntmps51, List.size_toArray, List.length_cons, List.length_nil, Nat.reduceAdd, Nat.reduceSub, Array.replicate_succ, Array.replicate_zero, List.push_toArray, List.append_toArray, List.nil_append, List.cons_append]
  gi_wp2
  go_ret
  exact ⟨rfl, rfl⟩

/-- slices.Backward(s) hands back a value that 'SeqStopsK'. -/
theorem back_stops {nn : Nat} (F : Fence) (n : Nat) (h7 : F.fn 60) (hro : F.round = none) (hn : 1 ≤ n) (Bs b off m d : Nat) (q : Option Addr) (y : Nat → Ix nn) (hm : m ≤ 1000) (hq : 0 < m → q = some ⟨b, off, none⟩) (w : World) (hBs : w.cell? ⟨Bs, 0, none⟩ = some (.slice q m d)) (hc : ∀ j, j < m → w.cell? ⟨b, off + j, none⟩ = some (.int .i64 ((y j).1 : Int))) :
    SeqStopsK F n Try.prog 60 #[.pointer (some ⟨Bs, 0, none⟩)] enc2 (KeepB Bs b) (fun ys => ys = upTo (dn y m) m) (fun pre => ∃ k, k ≤ m ∧ pre = upTo (dn y m) k) m w := fun l J Jx W hW _ _ hY h0 =>
  back_in F n h7 hro hn l Bs b off m d q y hm hq J Jx hY W ((hW.cell (p := ⟨Bs, 0, none⟩) (World.block_lt_of_cell? _ _ hBs)).trans hBs) (fun j hj => (hW.cell (p := ⟨b, off + j, none⟩) (World.block_lt_of_cell? _ _ (hc j hj))).trans (hc j hj)) h0

end Go.Proofs.Ytmfmjoibofadlaa.M
