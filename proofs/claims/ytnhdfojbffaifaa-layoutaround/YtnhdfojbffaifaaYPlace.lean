/-
  Own text: where a node stands: contracts of layout's Place, at, Next, Back, Head, Tail.
-/
import Derived.Test.YtnhdfojbffaifaaYPred
import Derived.Deep.RegionWith
namespace Go.Proofs.Ytnhdfojbffaifaa.M
open Go.ChangeShapes Go.WideShapes Go.ChangeAt Go.RowKit

/-- Where a node stands; -1: nowhere, or the chain can't be. -/
def plc (e : Int) (ms : List Mb) (node : Int) : Int := if chk e ms = true then ixM (fun m => m.n == node) 0 ms else -1

set_option maxRecDepth 20000 in
set_option maxHeartbeats 1000000 in
theorem Place_any (e : Int) (p : Option Addr) (n c : Nat) (ms : List Mb) (node : Int) (w : World) (hr : RdM w p n c ms) (hn : n ≤ 5864062014805) :
    Calls Try.prog 14 #[.agg #[.int .i64 e, .slice p n c], .int .i64 node] w fun r w' => r = .returned (.int .i64 (plc e ms node)) ∧ Below w.heap.size w w' := by
  have hb0 : Below w.heap.size w (w.alloc (.cells #[.int .i64 e, .slice p n c] 24)) := (Below.refl _ _).alloc (Nat.le_refl _) _
  have hC := Check_any e p n c ms _ (hr.below hb0) hn
  unfold chkV at hC
  cases hk : chk e ms with
  | false =>
    have HN : Hid (plc e ms node = -1) := by unfold Hid plc; rw [hk]; rfl
    rw [hk] at hC
    clear hr hk
    go_enter Try.func14, Try.ntmps14
    go_wp2_with fail
    refine hC.mono ?_
    rintro r w1 ⟨rfl, hb1⟩
    go_wp2_with fail
    go_ret
    exact ⟨ret_int HN.out.symm, hb0.trans (hb1.mono hb0.size)⟩
  | true =>
    have HN : Hid (plc e ms node = ixM (fun m => m.n == node) 0 ms) := by unfold Hid plc; rw [hk]; rfl
    rw [hk] at hC
    clear hk
    have hr1 := hr.below hb0
    have hv : (w.alloc (.cells #[.int .i64 e, .slice p n c] 24)).cell? ⟨w.heap.size, 1, none⟩ = some (.slice p n c) := by simp
    clear hr
    go_enter Try.func14, Try.ntmps14
    go_wp2_with fail
    refine hC.mono ?_
    rintro r w1 ⟨rfl, hb1⟩
    replace hv := (hb1.cell (p := ⟨w.heap.size, 1, none⟩) (World.block_lt_of_cell? _ _ hv)).trans hv
    have hr2 := hr1.below hb1
    have hbb := hb0.trans (hb1.mono hb0.size)
    have hI := fun W => is_any node W
    clear hC hr1 hb0 hb1
    go_wp2_with fail
    go_region_with (first
      | (go_at_call 39; refine (hI _).mono ?_; rintro r w2 ⟨rfl, hi, hb2q⟩; have hb2 : Below w1.heap.size w1 w2 := ⟨hb2q.os, hb2q.tape, hb2q.output, hb2q.size, hb2q.block⟩; have hv2 := (hb2.cell (p := ⟨w.heap.size, 1, none⟩) (World.block_lt_of_cell? _ _ hv)).trans hv; have hr3 := hr2.below hb2; have hA := asksIs _ _ _ hi)
      | (go_at_call 38; refine (indexF_any _ cfIs _ _ _ _ _ ms _ hr3 hn hA).mono ?_; rintro r w3 ⟨rfl, hb3q⟩; have hb3 : Below w2.heap.size w2 w3 := ⟨hb3q.os, hb3q.tape, hb3q.output, hb3q.size, hb3q.block⟩))
    all_goals go_wp2_with fail
    all_goals go_ret
    all_goals exact ⟨ret_int HN.out.symm, hbb.trans ((hb2.trans (hb3.mono hb2.size)).mono hbb.size)⟩

/-- Who stands at a place; -1: nobody. -/
def atM (ms : List Mb) (k : Int) : Int := if 0 ≤ k ∧ k < ms.length then (ms.getD k.toNat .z0).n else -1

set_option maxRecDepth 20000 in
theorem at_any (e : Int) (p : Option Addr) (n c : Nat) (ms : List Mb) (k : Int) (w : World) (hr : RdM w p n c ms) (hn : n ≤ 5864062014805) :
    Calls Try.prog 40 #[.agg #[.int .i64 e, .slice p n c], .int .i64 k] w fun r w' => r = .returned (.int .i64 (atM ms k)) ∧ Below w.heap.size w w' := by
  have hb0 : Below w.heap.size w (w.alloc (.cells #[.int .i64 e, .slice p n c] 24)) := (Below.refl _ _).alloc (Nat.le_refl _) _
  have hl := hr.len
  by_cases h : 0 ≤ k ∧ k < n
  · obtain ⟨h1, h2⟩ := h
    obtain ⟨j, rfl⟩ := Int.eq_ofNat_of_zero_le h1
    have HN : Hid (atM ms (j : Int) = (ms.getD j .z0).n) := by unfold Hid atM; rw [if_pos (by omega), Int.toNat_natCast]
    obtain ⟨b, o, rfl, hc⟩ := (hr.below hb0).cells (by omega)
    have hcj := (hc j (by omega)).1
    generalize (ms.getD j .z0).n = z at hcj HN
    clear hr hc hl
    go_enter Try.func40, Try.ntmps40
    go_wp2_with fail
    go_ret
    exact ⟨ret_int HN.out.symm, hb0⟩
  · have HN : Hid (atM ms k = -1) := by unfold Hid atM; rw [if_neg (by omega)]
    rcases (show k < 0 ∨ 0 ≤ k ∧ (n : Int) ≤ k by omega) with h1 | ⟨h1, h2⟩
    · clear hr hl h
      go_enter Try.func40, Try.ntmps40
      go_wp2_with fail
      go_ret
      exact ⟨ret_int HN.out.symm, hb0⟩
    · clear hr hl h
      go_enter Try.func40, Try.ntmps40
      go_wp2_with fail
      go_ret
      exact ⟨ret_int HN.out.symm, hb0⟩

theorem ixM_bounds (pr : Mb → Bool) : ∀ (l : List Mb) (k : Nat), ixM pr k l = -1 ∨ ((k : Int) ≤ ixM pr k l ∧ ixM pr k l < (k : Int) + l.length)
  | [], _ => Or.inl rfl
  | m :: l, k => by
    unfold ixM
    split
    · right; simp only [List.length_cons]; omega
    · rcases ixM_bounds pr l (k + 1) with h | h
      · exact Or.inl h
      · right; simp only [List.length_cons]; omega

theorem plc_bounds (e : Int) (ms : List Mb) (node : Int) : plc e ms node = -1 ∨ (0 ≤ plc e ms node ∧ plc e ms node < ms.length) := by
  unfold plc
  split
  · have := ixM_bounds (fun m => m.n == node) ms 0
    omega
  · exact Or.inl rfl

/-- Who stands so far behind a node. -/
def offM (e : Int) (ms : List Mb) (node by_ : Int) : Int := if plc e ms node = -1 then -1 else atM ms (plc e ms node + by_)

set_option maxRecDepth 20000 in
theorem Next_any (e : Int) (p : Option Addr) (n c : Nat) (ms : List Mb) (node : Int) (w : World) (hr : RdM w p n c ms) (hn : n ≤ 5864062014805) :
    Calls Try.prog 16 #[.agg #[.int .i64 e, .slice p n c], .int .i64 node] w fun r w' => r = .returned (.int .i64 (offM e ms node 1)) ∧ Below w.heap.size w w' := by
  have hb0 : Below w.heap.size w (w.alloc (.cells #[.int .i64 e, .slice p n c] 24)) := (Below.refl _ _).alloc (Nat.le_refl _) _
  have hP := Place_any e p n c ms node _ (hr.below hb0) hn
  have hv0 : (w.alloc (.cells #[.int .i64 e, .slice p n c] 24)).cell? ⟨w.heap.size, 0, none⟩ = some (.int .i64 e) := by simp
  have hv1 : (w.alloc (.cells #[.int .i64 e, .slice p n c] 24)).cell? ⟨w.heap.size, 1, none⟩ = some (.slice p n c) := by simp
  have hl := hr.len
  have hr1 := hr.below hb0
  have hbd := plc_bounds e ms node
  have HN : Hid (offM e ms node 1 = if plc e ms node = -1 then -1 else atM ms (plc e ms node + 1)) := rfl
  generalize plc e ms node = z at *
  clear hr
  go_enter Try.func16, Try.ntmps16
  go_wp2_with fail
  refine hP.mono ?_
  rintro r w1 ⟨rfl, hb1⟩
  replace hv0 := (hb1.cell (p := ⟨w.heap.size, 0, none⟩) (World.block_lt_of_cell? _ _ hv0)).trans hv0
  replace hv1 := (hb1.cell (p := ⟨w.heap.size, 1, none⟩) (World.block_lt_of_cell? _ _ hv1)).trans hv1
  have hr2 := hr1.below hb1
  have hbb := hb0.trans (hb1.mono hb0.size)
  by_cases hz : z = -1
  · subst hz
    have HN2 : Hid (offM e ms node 1 = -1) := HN.out
    clear hP hr1 hb0 hb1 HN
    go_wp2_with fail
    go_ret
    exact ⟨ret_int HN2.out.symm, hbb⟩
  · have hz2 : (z == -1) = false := by simp [hz]
    have HN2 : Hid (offM e ms node 1 = atM ms (z + 1)) := by unfold Hid; rw [HN.out, if_neg hz]
    have hA := at_any e p n c ms (z + 1) w1 hr2 hn
    have hz3 : 0 ≤ z := by omega
    have hz4 : z < 5864062014805 := by omega
    clear hP hr1 hb0 hb1 HN hbd hz hl
    go_wp2_with fail
    refine hA.mono ?_
    rintro r w2 ⟨rfl, hb2⟩
    go_wp2_with fail
    go_ret
    exact ⟨ret_int HN2.out.symm, hbb.trans (hb2.mono hbb.size)⟩

set_option maxRecDepth 20000 in
theorem Back_any (e : Int) (p : Option Addr) (n c : Nat) (ms : List Mb) (node : Int) (w : World) (hr : RdM w p n c ms) (hn : n ≤ 5864062014805) :
    Calls Try.prog 18 #[.agg #[.int .i64 e, .slice p n c], .int .i64 node] w fun r w' => r = .returned (.int .i64 (offM e ms node (-1))) ∧ Below w.heap.size w w' := by
  have hb0 : Below w.heap.size w (w.alloc (.cells #[.int .i64 e, .slice p n c] 24)) := (Below.refl _ _).alloc (Nat.le_refl _) _
  have hP := Place_any e p n c ms node _ (hr.below hb0) hn
  have hv0 : (w.alloc (.cells #[.int .i64 e, .slice p n c] 24)).cell? ⟨w.heap.size, 0, none⟩ = some (.int .i64 e) := by simp
  have hv1 : (w.alloc (.cells #[.int .i64 e, .slice p n c] 24)).cell? ⟨w.heap.size, 1, none⟩ = some (.slice p n c) := by simp
  have hl := hr.len
  have hr1 := hr.below hb0
  have hbd := plc_bounds e ms node
  have HN : Hid (offM e ms node (-1) = if plc e ms node = -1 then -1 else atM ms (plc e ms node - 1)) := rfl
  generalize plc e ms node = z at *
  clear hr
  go_enter Try.func18, Try.ntmps18
  go_wp2_with fail
  refine hP.mono ?_
  rintro r w1 ⟨rfl, hb1⟩
  replace hv0 := (hb1.cell (p := ⟨w.heap.size, 0, none⟩) (World.block_lt_of_cell? _ _ hv0)).trans hv0
  replace hv1 := (hb1.cell (p := ⟨w.heap.size, 1, none⟩) (World.block_lt_of_cell? _ _ hv1)).trans hv1
  have hr2 := hr1.below hb1
  have hbb := hb0.trans (hb1.mono hb0.size)
  by_cases hz : z = -1
  · subst hz
    have HN2 : Hid (offM e ms node (-1) = -1) := HN.out
    clear hP hr1 hb0 hb1 HN
    go_wp2_with fail
    go_ret
    exact ⟨ret_int HN2.out.symm, hbb⟩
  · have hz2 : (z == -1) = false := by simp [hz]
    have HN2 : Hid (offM e ms node (-1) = atM ms (z - 1)) := by unfold Hid; rw [HN.out, if_neg hz]
    have hA := at_any e p n c ms (z - 1) w1 hr2 hn
    have hz3 : 0 ≤ z := by omega
    have hz4 : z < 5864062014805 := by omega
    clear hP hr1 hb0 hb1 HN hbd hz hl
    go_wp2_with fail
    refine hA.mono ?_
    rintro r w2 ⟨rfl, hb2⟩
    go_wp2_with fail
    go_ret
    exact ⟨ret_int HN2.out.symm, hbb.trans (hb2.mono hbb.size)⟩

/-- The head, or the tail; -1 of a chain that can't be. -/
def endM (e : Int) (ms : List Mb) (k : Int) : Int := if chk e ms = true then atM ms k else -1

set_option maxRecDepth 20000 in
theorem Head_any (e : Int) (p : Option Addr) (n c : Nat) (ms : List Mb) (w : World) (hr : RdM w p n c ms) (hn : n ≤ 5864062014805) :
    Calls Try.prog 19 #[.agg #[.int .i64 e, .slice p n c]] w fun r w' => r = .returned (.int .i64 (endM e ms 0)) ∧ Below w.heap.size w w' := by
  have hb0 : Below w.heap.size w (w.alloc (.cells #[.int .i64 e, .slice p n c] 24)) := (Below.refl _ _).alloc (Nat.le_refl _) _
  have hP := Check_any e p n c ms _ (hr.below hb0) hn
  unfold chkV at hP
  have hv0 : (w.alloc (.cells #[.int .i64 e, .slice p n c] 24)).cell? ⟨w.heap.size, 0, none⟩ = some (.int .i64 e) := by simp
  have hv1 : (w.alloc (.cells #[.int .i64 e, .slice p n c] 24)).cell? ⟨w.heap.size, 1, none⟩ = some (.slice p n c) := by simp
  have hr1 := hr.below hb0
  have HN : Hid (endM e ms 0 = if chk e ms = true then atM ms 0 else -1) := rfl
  generalize chk e ms = z at *
  clear hr
  cases z with
  | false =>
    have HN2 : Hid (endM e ms 0 = -1) := HN.out
    clear HN
    go_enter Try.func19, Try.ntmps19
    go_wp2_with fail
    refine hP.mono ?_
    rintro r w1 ⟨rfl, hb1⟩
    go_wp2_with fail
    go_ret
    exact ⟨ret_int HN2.out.symm, hb0.trans (hb1.mono hb0.size)⟩
  | true =>
    have HN2 : Hid (endM e ms 0 = atM ms 0) := HN.out
    clear HN
    go_enter Try.func19, Try.ntmps19
    go_wp2_with fail
    refine hP.mono ?_
    rintro r w1 ⟨rfl, hb1⟩
    replace hv0 := (hb1.cell (p := ⟨w.heap.size, 0, none⟩) (World.block_lt_of_cell? _ _ hv0)).trans hv0
    replace hv1 := (hb1.cell (p := ⟨w.heap.size, 1, none⟩) (World.block_lt_of_cell? _ _ hv1)).trans hv1
    have hA := at_any e p n c ms 0 w1 (hr1.below hb1) hn
    have hbb := hb0.trans (hb1.mono hb0.size)
    clear hP hr1 hb0 hb1
    go_wp2_with fail
    refine hA.mono ?_
    rintro r w2 ⟨rfl, hb2⟩
    go_wp2_with fail
    go_ret
    exact ⟨ret_int HN2.out.symm, hbb.trans (hb2.mono hbb.size)⟩

set_option maxRecDepth 20000 in
theorem Tail_any (e : Int) (p : Option Addr) (n c : Nat) (ms : List Mb) (w : World) (hr : RdM w p n c ms) (hn : n ≤ 5864062014805) :
    Calls Try.prog 21 #[.agg #[.int .i64 e, .slice p n c]] w fun r w' => r = .returned (.int .i64 (endM e ms ((n : Int) - 1))) ∧ Below w.heap.size w w' := by
  have hb0 : Below w.heap.size w (w.alloc (.cells #[.int .i64 e, .slice p n c] 24)) := (Below.refl _ _).alloc (Nat.le_refl _) _
  have hP := Check_any e p n c ms _ (hr.below hb0) hn
  unfold chkV at hP
  have hv0 : (w.alloc (.cells #[.int .i64 e, .slice p n c] 24)).cell? ⟨w.heap.size, 0, none⟩ = some (.int .i64 e) := by simp
  have hv1 : (w.alloc (.cells #[.int .i64 e, .slice p n c] 24)).cell? ⟨w.heap.size, 1, none⟩ = some (.slice p n c) := by simp
  have hr1 := hr.below hb0
  have HN : Hid (endM e ms ((n : Int) - 1) = if chk e ms = true then atM ms ((n : Int) - 1) else -1) := rfl
  generalize chk e ms = z at *
  clear hr
  cases z with
  | false =>
    have HN2 : Hid (endM e ms ((n : Int) - 1) = -1) := HN.out
    clear HN
    go_enter Try.func21, Try.ntmps21
    go_wp2_with fail
    refine hP.mono ?_
    rintro r w1 ⟨rfl, hb1⟩
    go_wp2_with fail
    go_ret
    exact ⟨ret_int HN2.out.symm, hb0.trans (hb1.mono hb0.size)⟩
  | true =>
    have HN2 : Hid (endM e ms ((n : Int) - 1) = atM ms ((n : Int) - 1)) := HN.out
    clear HN
    go_enter Try.func21, Try.ntmps21
    go_wp2_with fail
    refine hP.mono ?_
    rintro r w1 ⟨rfl, hb1⟩
    replace hv0 := (hb1.cell (p := ⟨w.heap.size, 0, none⟩) (World.block_lt_of_cell? _ _ hv0)).trans hv0
    replace hv1 := (hb1.cell (p := ⟨w.heap.size, 1, none⟩) (World.block_lt_of_cell? _ _ hv1)).trans hv1
    have hA := at_any e p n c ms ((n : Int) - 1) w1 (hr1.below hb1) hn
    have hbb := hb0.trans (hb1.mono hb0.size)
    clear hP hr1 hb0 hb1
    go_wp2_with fail
    refine hA.mono ?_
    rintro r w2 ⟨rfl, hb2⟩
    go_wp2_with fail
    go_ret
    exact ⟨ret_int HN2.out.symm, hbb.trans (hb2.mono hbb.size)⟩

end Go.Proofs.Ytnhdfojbffaifaa.M
