/-
  Own text: where a node stands: contracts of layout's Place, at, Next, Back, Head, Tail.
-/
import Derived.Test.YtcnkpgbmegppbaaYPred
import Derived.Deep.RegionWith
namespace Go.Proofs.Ytcnkpgbmegppbaa.M
open Go.ChangeShapes Go.WideShapes Go.ChangeAt Go.RowKit

/-- Where a node stands; -1: nowhere, or the chain can't be. -/
def plc (e : Int) (ms : List Mb) (node : Int) : Int := if chk e ms = true then ixM (fun m => m.n == node) 0 ms else -1

set_option maxRecDepth 20000 in
set_option maxHeartbeats 1000000 in
theorem Place_any (e : Int) (p : Option Addr) (n c : Nat) (ms : List Mb) (node : Int) (w : World) (hr : RdM w p n c ms) (hn : n ≤ 5864062014805) :
    Calls Try.prog 22 #[.agg #[.int .i64 e, .slice p n c], .int .i64 node] w fun r w' => r = .returned (.int .i64 (plc e ms node)) ∧ Below w.heap.size w w' := by
  have hb0 : Below w.heap.size w (w.alloc (.cells #[.int .i64 e, .slice p n c] 42)) := (Below.refl _ _).alloc (Nat.le_refl _) _
  have hC := Check_any e p n c ms _ (hr.below hb0) hn
  unfold chkV at hC
  cases hk : chk e ms with
  | false =>
    have HN : Hid (plc e ms node = -1) := by unfold Hid plc; rw [hk]; rfl
    rw [hk] at hC
    clear hr hk
    go_enter Try.func22, Try.ntmps22
    go_wp2_with fail
    refine hC.mono ?_
    rintro r w1 ⟨rfl, hb1⟩
    go_wp2_with fail
    go_ret
    exact ⟨ret_int HN.out.symm, hb0.trans (hb1.mono hb0.size)⟩
  | true =>
    have HN : Hid (plc e ms node = ixM (fun m => m.n == node) 0 ms) := by unfold Hid plc; rw [hk]; rfl
    rw [hk] at hC
    clear hk
    have hr1 := hr.below hb0
    have hv : (w.alloc (.cells #[.int .i64 e, .slice p n c] 42)).cell? ⟨w.heap.size, 1, none⟩ = some (.slice p n c) := by simp
    clear hr
    go_enter Try.func22, Try.ntmps22
    go_wp2_with fail
    refine hC.mono ?_
    rintro r w1 ⟨rfl, hb1⟩
    replace hv := (hb1.cell (p := ⟨w.heap.size, 1, none⟩) (World.block_lt_of_cell? _ _ hv)).trans hv
    have hr2 := hr1.below hb1
    have hbb := hb0.trans (hb1.mono hb0.size)
    have hI := fun W => is_any node W
    clear hC hr1 hb0 hb1
    go_wp2_with fail
    go_region_with (first
      | (go_at_call 49; refine (hI _).mono ?_; rintro r w2 ⟨rfl, hi, hb2q⟩; have hb2 : Below w1.heap.size w1 w2 := ⟨hb2q.os, hb2q.tape, hb2q.output, hb2q.size, hb2q.block⟩; have hv2 := (hb2.cell (p := ⟨w.heap.size, 1, none⟩) (World.block_lt_of_cell? _ _ hv)).trans hv; have hr3 := hr2.below hb2; have hA := asksIs _ _ _ hi)
      | (go_at_call 48; refine (indexF_any _ cfIs _ _ _ _ _ ms _ hr3 hn hA).mono ?_; rintro r w3 ⟨rfl, hb3q⟩; have hb3 : Below w2.heap.size w2 w3 := ⟨hb3q.os, hb3q.tape, hb3q.output, hb3q.size, hb3q.block⟩))
    all_goals go_wp2_with fail
    all_goals go_ret
    all_goals exact ⟨ret_int HN.out.symm, hbb.trans ((hb2.trans (hb3.mono hb2.size)).mono hbb.size)⟩

/-- Who stands at a place; -1: nobody. -/
def atM (ms : List Mb) (k : Int) : Int := if 0 ≤ k ∧ k < ms.length then (ms.getD k.toNat .z0).n else -1

theorem ixM_bounds (pr : Mb → Bool) : ∀ (l : List Mb) (k : Nat), ixM pr k l = -1 ∨ ((k : Int) ≤ ixM pr k l ∧ ixM pr k l < (k : Int) + l.length)
  | [], _ => Or.inl rfl
  | m :: l, k => by
    unfold ixM
    split
    · right; simp only [List.length_cons]; omega
    · rcases ixM_bounds pr l (k + 1) with h | h
      · exact Or.inl h
      · right; simp only [List.length_cons]; omega

theorem plc_bounds (e : Int) (ms : List Mb) (node : Int) : plc e ms node = -1 ∨ (0 ≤ plc e ms node ∧ plc e ms node < ms.length) := by
  unfold plc
  split
  · have := ixM_bounds (fun m => m.n == node) ms 0
    omega
  · exact Or.inl rfl

/-- Who stands so far behind a node. -/
def offM (e : Int) (ms : List Mb) (node by_ : Int) : Int := if plc e ms node = -1 then -1 else atM ms (plc e ms node + by_)

/-- The head, or the tail; -1 of a chain that can't be. -/
def endM (e : Int) (ms : List Mb) (k : Int) : Int := if chk e ms = true then atM ms k else -1

end Go.Proofs.Ytcnkpgbmegppbaa.M
