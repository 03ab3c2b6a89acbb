/-
  Own text: the walk of the law LayoutComes.
-/
import Derived.Test.YtnhdfojbffaifaaLLayoutChanges
import Derived.Test.YtnhdfojbffaifaaYFirst2
import Derived.Test.YtnhdfojbffaifaaYRdyP
namespace Go.Proofs.Ytnhdfojbffaifaa.M
open Go.ChangeShapes Go.WideShapes Go.ChangeAt Go.RowKit

/-- A change: what, a node, a site, a flag. -/
structure Dm where
  o : Int
  n : Int
  s : Int
  f : Bool

def Dm.z0 : Dm := ⟨0, 0, 0, false⟩

/-- A slice of changes that can be read. -/
structure RdD (w : World) (p : Option Addr) (n c : Nat) (ds : List Dm) : Prop where
  len : ds.length = n
  cap : n ≤ c
  cells : 0 < n → ∃ b o, p = some ⟨b, o, none⟩ ∧ ∀ i, i < n → w.cell? ⟨b, o + i * 4, none⟩ = some (.int .i64 (ds.getD i .z0).o) ∧ w.cell? ⟨b, o + i * 4 + 1, none⟩ = some (.int .i64 (ds.getD i .z0).n) ∧ w.cell? ⟨b, o + i * 4 + 2, none⟩ = some (.int .i64 (ds.getD i .z0).s) ∧ w.cell? ⟨b, o + i * 4 + 3, none⟩ = some (.bool (ds.getD i .z0).f)

theorem RdD.below {w w' : World} {p : Option Addr} {n c : Nat} {ds : List Dm} (h : RdD w p n c ds) (hb : Below w.heap.size w w') : RdD w' p n c ds :=
  ⟨h.len, h.cap, fun h0 => by
    obtain ⟨b, o, e, hc⟩ := h.cells h0
    refine ⟨b, o, e, fun i hi => ?_⟩
    obtain ⟨h1, h2, h3, h4⟩ := hc i hi
    exact ⟨cell_below hb h1, cell_below hb h2, cell_below hb h3, cell_below hb h4⟩⟩

/-- An answer that is a chain that may be, or why there is none. -/
def goodR (R : CR) : Prop := (∃ k, R = .error k ∧ k ≠ 0) ∨ ∃ e ms, R = .ok (e, ms) ∧ chk e ms = true

theorem first_good (ms : List Mb) : goodR (firstR ms) := by
  unfold firstR
  split
  · exact Or.inl ⟨80, rfl, by decide⟩
  · split
    · exact Or.inl ⟨80, rfl, by decide⟩
    · rename_i h
      exact Or.inr ⟨1, _, rfl, by simpa using h⟩

theorem First_all (p : Option Addr) (n c : Nat) (ms : List Mb) (w : World) (hr : RdM w p n c ms) (hn : n ≤ 1099511627776) :
    Calls Try.prog 28 #[.slice p n c] w fun r w' => ∃ R v, goodR R ∧ r = .returned v ∧ Told w.heap.size w' v R ∧ Below w.heap.size w w' := by
  by_cases h0 : n = 0
  · subst h0
    exact (First_none p c ms w hr).mono fun _ _ ⟨v, h1, h2, h3⟩ => ⟨.error 80, v, Or.inl ⟨80, rfl, by decide⟩, h1, h2, h3⟩
  · by_cases h7 : 6 < n
    · exact (First_many p n c ms w hr hn h7).mono fun _ _ ⟨v, h1, h2, h3⟩ => ⟨.error 80, v, Or.inl ⟨80, rfl, by decide⟩, h1, h2, h3⟩
    · exact (First_few p n c ms w hr (by omega) (by omega)).mono fun _ _ ⟨v, h1, h2, h3⟩ => ⟨firstR ms, v, first_good ms, h1, h2, h3⟩

theorem dR_err {op nd st : Int} {fr : Bool} {e : Int} {ms : List Mb} {k : Int} (h : dR op nd st fr e ms = .error k) : k ≠ 0 := by
  unfold dR cutR joinR againR readyR at h
  repeat' split at h
  all_goals cases h
  all_goals decide

theorem ox_range (op : Int) : 0 ≤ wrap64 ((IntKind.u64.wrap op).tmod 5) ∧ wrap64 ((IntKind.u64.wrap op).tmod 5) < 5 := by
  have h0 : 0 ≤ IntKind.u64.wrap op := by rw [IntKind.wrap_u64]; exact Int.emod_nonneg _ (by decide)
  generalize IntKind.u64.wrap op = x at *
  rw [Int.tmod_eq_emod_of_nonneg h0]
  have h1 : 0 ≤ x % 5 ∧ x % 5 < 5 := by omega
  generalize x % 5 = y at *
  have h2 : wrap64 y = y := by unfold wrap64; omega
  rw [h2]
  exact h1

/-- A change that is not a Ready makes the next epoch, and what follows; one that is keeps the epoch. -/
theorem dR_steps {op nd st : Int} {fr : Bool} {e e' : Int} {ms ms' : List Mb} (hc : chk e ms = true) (h : dR op nd st fr e ms = .ok (e', ms')) :
    ((wrap64 ((IntKind.u64.wrap op).tmod 5) == 4) = false → e' = e + 1 ∧ Hid (thN (fun m => !m.f) 0 ms' &&& (18446744073709551615 - thN (fun _ => true) 0 ms) = 0) ∧ Hid (rowL (thN (fun _ => true) 0 ms &&& thN (fun _ => true) 0 ms') ms = rowL (thN (fun _ => true) 0 ms &&& thN (fun _ => true) 0 ms') ms')) ∧
    ((wrap64 ((IntKind.u64.wrap op).tmod 5) == 4) = true → e' = e ∧ thN (fun _ => true) 0 ms' = thN (fun _ => true) 0 ms ∧ pop (thN (fun m => !m.f) 0 ms' &&& (18446744073709551615 - thN (fun m => !m.f) 0 ms)) = 1) := by
  obtain ⟨c1, c2, c3, c4⟩ := (chk_iff e ms).1 hc
  have hr := ox_range op
  unfold dR at h
  generalize wrap64 ((IntKind.u64.wrap op).tmod 5) = o at *
  split at h
  · rename_i h0
    have h0 := beq_iff_eq.1 h0
    obtain ⟨k1, _, k3⟩ := cut_chk hc h
    exact ⟨fun _ => ⟨k1, part_follows k3 c4⟩, fun h4 => by have := beq_iff_eq.1 h4; omega⟩
  split at h
  · rename_i h0
    have h0 := beq_iff_eq.1 h0
    obtain ⟨k1, _, k3⟩ := cut_chk hc h
    exact ⟨fun _ => ⟨k1, part_follows k3 c4⟩, fun h4 => by have := beq_iff_eq.1 h4; omega⟩
  split at h
  · rename_i h0
    have h0 := beq_iff_eq.1 h0
    obtain ⟨k1, k2, _, k3, rfl⟩ := join_chk hc h
    exact ⟨fun _ => ⟨k1, join_follows (m := ⟨nd, st, fr⟩) c4 ((chk_iff _ _).1 k2).2.2.2 k3⟩, fun h4 => by have := beq_iff_eq.1 h4; omega⟩
  split at h
  · rename_i h0
    have h0 := beq_iff_eq.1 h0
    obtain ⟨k1, _, rfl⟩ := again_chk hc h
    exact ⟨fun _ => ⟨k1, part_follows (List.Sublist.refl _) c4⟩, fun h4 => by have := beq_iff_eq.1 h4; omega⟩
  · rename_i n0 n1 n2 n3
    have n0 : o ≠ 0 := fun e => n0 (beq_iff_eq.2 e)
    have n1 : o ≠ 1 := fun e => n1 (beq_iff_eq.2 e)
    have n2 : o ≠ 2 := fun e => n2 (beq_iff_eq.2 e)
    have n3 : o ≠ 3 := fun e => n3 (beq_iff_eq.2 e)
    obtain ⟨k1, _, i, k2, k3, rfl⟩ := ready_chk hc h
    exact ⟨fun h4 => absurd (beq_iff_eq.2 (show o = 4 by omega)) (by rw [h4]; decide), fun _ => ⟨k1, ready_sets c4 k2 k3⟩⟩

end Go.Proofs.Ytnhdfojbffaifaa.M
