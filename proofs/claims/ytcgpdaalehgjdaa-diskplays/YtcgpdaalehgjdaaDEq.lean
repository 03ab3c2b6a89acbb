/-
  Own text: equal bytes; eight slices in a new block; rows of a new world.
-/
import Derived.Test.YtcgpdaalehgjdaaDFiles
import Derived.Lib.Bytes
namespace Go.Proofs.Ytcgpdaalehgjdaa.M
open Go.ChangeShapes Go.WideShapes Go.ChangeAt Go.RowKit

theorem Rd.conv {P : Program} {w : World} {p : Option Addr} {n c : Nat} {xs : List Int} (h : Rd .u8 w p n c xs) (src e dst : TypeId) (hs : P.underlying src = some (.slice e)) (he : P.underlying e = some (.int .u8)) (hd : P.underlying dst = some .string) :
    (convert src dst (.slice p n c)).run P w = .ok (.string (strOfNums xs)) w := by
  by_cases hn : n = 0
  · subst hn
    obtain rfl : xs = [] := List.length_eq_zero_iff.1 h.len
    rw [run_convert_bytes_string w src dst e _ _ c hs he hd]
    cases p with
    | none => simp [Conv.bytesToString, strOfNums]; rfl
    | some a =>
      have hl : (loadCells a 0).run P w = .ok #[] w := run_loadCells_list (P := P) w a [] (by simp)
      simp [Conv.bytesToString, hl, strOfNums]
      rfl
  · obtain ⟨b, o, rfl, hc⟩ := h.cells (by omega)
    exact run_convert_bytes_arg (P := P) w src e hs he b o n c xs h.len hc dst hd

set_option maxRecDepth 20000 in
theorem equal_some (p q : Option Addr) (n c m d : Nat) (xs ys : List Int) (w : World) (hx : Rd .u8 w p n c xs) (hy : Rd .u8 w q m d ys) :
    Calls Try.prog 21 #[.slice p n c, .slice q m d] w fun e w' => e = .returned (.bool ((strOfNums xs).toList == (strOfNums ys).toList)) ∧ w' = w := by
  have h1 := hx.conv (P := Try.prog) 32 5 9 Try.underlying32 Try.underlying5 Try.underlying9
  have h2 := hy.conv (P := Try.prog) 32 5 9 Try.underlying32 Try.underlying5 Try.underlying9
  clear hx hy
  go_enter Try.func21, Try.ntmps21
  go_wp2
  go_ret
  exact ⟨rfl, rfl⟩

theorem equal_same (p q : Option Addr) (n c m d : Nat) (xs : List Int) (w : World) (hx : Rd .u8 w p n c xs) (hy : Rd .u8 w q m d xs) :
    Calls Try.prog 21 #[.slice p n c, .slice q m d] w fun e w' => e = .returned (.bool true) ∧ w' = w := by
  refine (equal_some p q n c m d xs xs w hx hy).mono ?_
  rintro e w' ⟨rfl, rfl⟩
  exact ⟨by simp, rfl⟩

theorem Ei.new (w : World) (F : Nat → Sl) : Ei (w.alloc (.cells #[.slice (F 0).p (F 0).n (F 0).c, .slice (F 1).p (F 1).n (F 1).c, .slice (F 2).p (F 2).n (F 2).c, .slice (F 3).p (F 3).n (F 3).c, .slice (F 4).p (F 4).n (F 4).c, .slice (F 5).p (F 5).n (F 5).c, .slice (F 6).p (F 6).n (F 6).c, .slice (F 7).p (F 7).n (F 7).c] 50)) w.heap.size F := by
  refine ⟨fun j hj => ?_, fun j => World.frozen?_alloc_at _ _ _ _ rfl⟩
  match j, hj with
  | 0, _ => simp
  | 1, _ => simp
  | 2, _ => simp
  | 3, _ => simp
  | 4, _ => simp
  | 5, _ => simp
  | 6, _ => simp
  | 7, _ => simp
  | k + 8, h => exact absurd h (by omega)

theorem files_lit (w : World) (B : Nat) (own : Nat → Nat) (a g : Nat) (d : Dk) (m : PD) (s : Nat) (h : DA w B own a g d m) (hm : m.ok s) (hs : s ≤ 549755813888) :
    Calls Try.prog 27 #[.pointer (some ⟨g, 0, none⟩)] w fun e w' => ∃ F, e = .returned (.agg #[.slice (F 0).p (F 0).n (F 0).c, .slice (F 1).p (F 1).n (F 1).c, .slice (F 2).p (F 2).n (F 2).c, .slice (F 3).p (F 3).n (F 3).c, .slice (F 4).p (F 4).n (F 4).c, .slice (F 5).p (F 5).n (F 5).c, .slice (F 6).p (F 6).n (F 6).c, .slice (F 7).p (F 7).n (F 7).c]) ∧ Rd8 w' w.heap.size w'.heap.size F (fun i => (m.f i).told) ∧ DA w' B own a g { d with down := false } { m with down := false } ∧ Ch (fun k => k = g) w w' :=
  files_any w B own a g d m s h hm hs

theorem rows3 (w : World) (o1 o2 o3 : Obj) : (((w.alloc o1).alloc o2).alloc o3).heap[w.heap.size]? = some o1 ∧ (((w.alloc o1).alloc o2).alloc o3).heap[w.heap.size + 1]? = some o2 ∧ (((w.alloc o1).alloc o2).alloc o3).heap[w.heap.size + 1 + 1]? = some o3 := by
  have s1 : (w.alloc o1).heap.size = w.heap.size + 1 := by simp
  have s2 : ((w.alloc o1).alloc o2).heap.size = w.heap.size + 1 + 1 := by simp
  refine ⟨?_, ?_, ?_⟩
  · rw [Below.heap_alloc _ _ _ (by omega), Below.heap_alloc _ _ _ (by omega)]
    exact heap_alloc_new _ _
  · rw [Below.heap_alloc _ _ _ (by omega), ← s1]
    exact heap_alloc_new _ _
  · rw [← s2]
    exact heap_alloc_new _ _

theorem cell_row {w : World} {b : Nat} {cs : Array Value} {t : TypeId} (h : w.heap[b]? = some (.cells cs t)) {j : Nat} {v : Value} (hj : cs[j]? = some v) : w.cell? ⟨b, j, none⟩ = some v := by
  unfold World.cell?
  dsimp only
  rw [h]
  exact hj

/-- One list of calls that has one. -/
theorem RdQ.one {w : World} {b : Nat} {x : Dv} (h : x.at w b 0) (hr : x.rd w) : RdQ w (some ⟨b, 0, none⟩) 1 1 [x] :=
  ⟨rfl, fun _ => ⟨b, 0, rfl, fun j hj => by
    obtain rfl : j = 0 := by omega
    exact h⟩, fun j hj => by
    obtain rfl : j = 0 := by omega
    exact hr⟩

/-- Two lists. -/
theorem RdQQ.two {w : World} {b : Nat} {p q : Option Addr} {n c m d : Nat} {ls ks : List Dv} (h0 : w.cell? ⟨b, 0, none⟩ = some (.slice p n c)) (h1 : w.cell? ⟨b, 1, none⟩ = some (.slice q m d)) (r0 : RdQ w p n c ls) (r1 : RdQ w q m d ks) : RdQQ w (some ⟨b, 0, none⟩) 2 [ls, ks] :=
  ⟨rfl, fun _ => ⟨b, 0, rfl, fun j hj => by
    rw [Nat.zero_add]
    match j, hj with
    | 0, _ => exact ⟨p, n, c, h0, r0⟩
    | 1, _ => exact ⟨q, m, d, h1, r1⟩⟩⟩

theorem RdQQ.one {w : World} {b : Nat} {p : Option Addr} {n c : Nat} {ls : List Dv} (h0 : w.cell? ⟨b, 0, none⟩ = some (.slice p n c)) (r0 : RdQ w p n c ls) : RdQQ w (some ⟨b, 0, none⟩) 1 [ls] :=
  ⟨rfl, fun _ => ⟨b, 0, rfl, fun j hj => by
    obtain rfl : j = 0 := by omega
    exact ⟨p, n, c, h0, r0⟩⟩⟩

/-- Where two lists are short. -/
theorem short_two {ls ks : List Dv} (h : totN [ls, ks] [ls, ks].length ≤ 16384 ∧ cntN [ls, ks] [ls, ks].length ≤ 150) : (ls.length ≤ 150 ∧ Small ls ∧ bytesN ls ls.length ≤ 16384) ∧ (ks.length ≤ 150 ∧ Small ks ∧ bytesN ks ks.length ≤ 16384) :=
  ⟨short_of h (j := 0) (by simp), short_of h (j := 1) (by simp)⟩

/-- What is of no disk. -/
theorem not_mine {own : Nat → Nat} {a g k : Nat} (h1 : k ≠ g) (h2 : own k = 0) : ¬ Mine own a g k := by
  rintro (e | ⟨i, _, e⟩)
  · exact h1 e
  · rw [h2] at e
    exact mark_pos a i e.symm

theorem act_room (m : PD) (n : Nat) (X : Nat → Nat → PF) : (m.act n X).room = m.room := by
  unfold PD.act
  split
  · rfl
  · split <;> rfl

/-- An act that leaves the power on. -/
theorem act_on {m : PD} {n : Nat} {X : Nat → Nat → PF} (h : (goneE (m.gone n) == 50) = false) : (m.act n X).f = X n := by
  unfold PD.act
  by_cases h0 : m.left = 0
  · rw [if_pos h0]
  · rw [if_neg h0]
    by_cases h1 : m.left ≤ n
    · have hg : m.gone n = true := decide_eq_true (by omega)
      rw [hg] at h
      cases h
    · rw [if_neg h1]

/-- P5.7, in plain words. -/
theorem step_apart {m : PD} {k : Dq} (h : (m.step k).1.down = false) (he : ((m.step k).2 == 50) = false) {j : Nat} (hj : (j : Int) ≠ k.i) : ((m.step k).1.f j).told = (m.f j).told := by
  unfold PD.step at h he ⊢
  split
  · rfl
  split
  · rfl
  split
  · rename_i h1 h2 h3
    rw [if_neg h1, if_neg h2, if_pos h3] at h
    cases h
  split
  · split <;> rfl
  split
  · rfl
  rename_i h1 h2 h3 h4 h5
  rw [if_neg h1, if_neg h2, if_neg h3, if_neg h4, if_neg h5] at he
  have hjn : j ≠ k.i.toNat := by omega
  split
  · rename_i h6
    rw [if_pos h6] at he
    show ((m.clearAt k.i.toNat).f j).told = _
    unfold PD.clearAt
    rw [act_on he, upP_other _ _ hjn]
  split
  · rename_i h6 h7
    rw [if_neg h6, if_pos h7] at he
    show ((m.syncAt k.i.toNat).f j).told = _
    unfold PD.syncAt
    rw [act_on he, upP_other _ _ hjn]
  split
  · rfl
  · rename_i h6 h7 h8
    rw [if_neg h6, if_neg h7, if_neg h8] at he
    show ((m.putAt k.i.toNat k.b).f j).told = _
    unfold PD.putAt
    rw [act_on he, upP_other _ _ hjn]

end Go.Proofs.Ytcgpdaalehgjdaa.M
