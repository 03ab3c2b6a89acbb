/-
  Own text: the contract of the law's alike; two rows of a new world.
-/
import Derived.Test.YtcgpdaalehgjdaaDCl2
namespace Go.Proofs.Ytcgpdaalehgjdaa.M
open Go.ChangeShapes Go.WideShapes Go.ChangeAt Go.RowKit

theorem rows2 (w : World) (o1 o2 : Obj) : ((w.alloc o1).alloc o2).heap[w.heap.size]? = some o1 ∧ ((w.alloc o1).alloc o2).heap[w.heap.size + 1]? = some o2 := by
  have s1 : (w.alloc o1).heap.size = w.heap.size + 1 := by simp
  refine ⟨?_, ?_⟩
  · rw [Below.heap_alloc _ _ _ (by omega)]
    exact heap_alloc_new _ _
  · rw [← s1]
    exact heap_alloc_new _ _

set_option maxRecDepth 20000 in
set_option maxHeartbeats 1000000 in
theorem alike_any (w : World) (F G : Nat → Sl) (f : Nat → List Int) (hF : ∀ i, i < 8 → Rd .u8 w (F i).p (F i).n (F i).c (f i)) (hG : ∀ i, i < 8 → Rd .u8 w (G i).p (G i).n (G i).c (f i)) :
    Calls Try.prog 31 #[.agg #[.slice (F 0).p (F 0).n (F 0).c, .slice (F 1).p (F 1).n (F 1).c, .slice (F 2).p (F 2).n (F 2).c, .slice (F 3).p (F 3).n (F 3).c, .slice (F 4).p (F 4).n (F 4).c, .slice (F 5).p (F 5).n (F 5).c, .slice (F 6).p (F 6).n (F 6).c, .slice (F 7).p (F 7).n (F 7).c], .agg #[.slice (G 0).p (G 0).n (G 0).c, .slice (G 1).p (G 1).n (G 1).c, .slice (G 2).p (G 2).n (G 2).c, .slice (G 3).p (G 3).n (G 3).c, .slice (G 4).p (G 4).n (G 4).c, .slice (G 5).p (G 5).n (G 5).c, .slice (G 6).p (G 6).n (G 6).c, .slice (G 7).p (G 7).n (G 7).c]] w fun e w' => e = .returned (.bool true) ∧ Below w.heap.size w w' := by
  have hb1 : Below w.heap.size w (w.alloc (.cells #[.slice (F 0).p (F 0).n (F 0).c, .slice (F 1).p (F 1).n (F 1).c, .slice (F 2).p (F 2).n (F 2).c, .slice (F 3).p (F 3).n (F 3).c, .slice (F 4).p (F 4).n (F 4).c, .slice (F 5).p (F 5).n (F 5).c, .slice (F 6).p (F 6).n (F 6).c, .slice (F 7).p (F 7).n (F 7).c] 50)) := (Below.refl _ _).alloc (Nat.le_refl _) _
  have hb2 : Below (w.alloc (.cells #[.slice (F 0).p (F 0).n (F 0).c, .slice (F 1).p (F 1).n (F 1).c, .slice (F 2).p (F 2).n (F 2).c, .slice (F 3).p (F 3).n (F 3).c, .slice (F 4).p (F 4).n (F 4).c, .slice (F 5).p (F 5).n (F 5).c, .slice (F 6).p (F 6).n (F 6).c, .slice (F 7).p (F 7).n (F 7).c] 50)).heap.size (w.alloc (.cells #[.slice (F 0).p (F 0).n (F 0).c, .slice (F 1).p (F 1).n (F 1).c, .slice (F 2).p (F 2).n (F 2).c, .slice (F 3).p (F 3).n (F 3).c, .slice (F 4).p (F 4).n (F 4).c, .slice (F 5).p (F 5).n (F 5).c, .slice (F 6).p (F 6).n (F 6).c, .slice (F 7).p (F 7).n (F 7).c] 50)) ((w.alloc (.cells #[.slice (F 0).p (F 0).n (F 0).c, .slice (F 1).p (F 1).n (F 1).c, .slice (F 2).p (F 2).n (F 2).c, .slice (F 3).p (F 3).n (F 3).c, .slice (F 4).p (F 4).n (F 4).c, .slice (F 5).p (F 5).n (F 5).c, .slice (F 6).p (F 6).n (F 6).c, .slice (F 7).p (F 7).n (F 7).c] 50)).alloc (.cells #[.slice (G 0).p (G 0).n (G 0).c, .slice (G 1).p (G 1).n (G 1).c, .slice (G 2).p (G 2).n (G 2).c, .slice (G 3).p (G 3).n (G 3).c, .slice (G 4).p (G 4).n (G 4).c, .slice (G 5).p (G 5).n (G 5).c, .slice (G 6).p (G 6).n (G 6).c, .slice (G 7).p (G 7).n (G 7).c] 50)) := (Below.refl _ _).alloc (Nat.le_refl _) _
  have hE1 := (Ei.new w F).below hb2
  have hE2 := Ei.new (w.alloc (.cells #[.slice (F 0).p (F 0).n (F 0).c, .slice (F 1).p (F 1).n (F 1).c, .slice (F 2).p (F 2).n (F 2).c, .slice (F 3).p (F 3).n (F 3).c, .slice (F 4).p (F 4).n (F 4).c, .slice (F 5).p (F 5).n (F 5).c, .slice (F 6).p (F 6).n (F 6).c, .slice (F 7).p (F 7).n (F 7).c] 50)) G
  have hsz : (w.alloc (.cells #[.slice (F 0).p (F 0).n (F 0).c, .slice (F 1).p (F 1).n (F 1).c, .slice (F 2).p (F 2).n (F 2).c, .slice (F 3).p (F 3).n (F 3).c, .slice (F 4).p (F 4).n (F 4).c, .slice (F 5).p (F 5).n (F 5).c, .slice (F 6).p (F 6).n (F 6).c, .slice (F 7).p (F 7).n (F 7).c] 50)).heap.size = w.heap.size + 1 := by simp
  rw [hsz] at hE2
  have hb := hb1.trans (hb2.mono hb1.size)
  clear hb1 hb2
  go_enter Try.func31, Try.ntmps31
  go_wp2_with fail
  generalize ((w.alloc (.cells #[.slice (F 0).p (F 0).n (F 0).c, .slice (F 1).p (F 1).n (F 1).c, .slice (F 2).p (F 2).n (F 2).c, .slice (F 3).p (F 3).n (F 3).c, .slice (F 4).p (F 4).n (F 4).c, .slice (F 5).p (F 5).n (F 5).c, .slice (F 6).p (F 6).n (F 6).c, .slice (F 7).p (F 7).n (F 7).c] 50)).alloc (.cells #[.slice (G 0).p (G 0).n (G 0).c, .slice (G 1).p (G 1).n (G 1).c, .slice (G 2).p (G 2).n (G 2).c, .slice (G 3).p (G 3).n (G 3).c, .slice (G 4).p (G 4).n (G 4).c, .slice (G 5).p (G 5).n (G 5).c, .slice (G 6).p (G 6).n (G 6).c, .slice (G 7).p (G 7).n (G 7).c] 50)) = w2 at *
  go_loopw [6] (fun ix wr => ∃ (k : Nat), k ≤ 8 ∧ ix = .int .i64 k ∧ Below w2.heap.size w2 wr) (fun ix _ => 8 - (intOf ix).toNat)
  case atStart => exact ⟨0, Nat.zero_le _, rfl, Below.refl _ _⟩
  case round =>
    obtain ⟨k, hk, rfl, hbr⟩ := hrel
    by_cases h8 : k < 8
    · have hki : (k : Int) < 8 := by omega
      have v1 := (hE1.below hbr).cells k h8
      have v2 := (hE2.below hbr).cells k h8
      have r1 := ((hF k h8).below' hb).below' hbr
      have r2 := ((hG k h8).below' hb).below' hbr
      clear hE1 hE2 hF hG
      generalize F k = Fk at *
      generalize G k = Gk at *
      obtain ⟨fp, fn, fc⟩ := Fk
      obtain ⟨gp, gn, gc⟩ := Gk
      dsimp only at *
      have hEq : ∀ t, Calls Try.prog 21 #[.slice fp fn fc, .slice gp gn gc] (wr.drewN t) fun e w' => e = .returned (.bool true) ∧ w' = wr.drewN t := fun t => by
        have hbd := below_drewN (Below.refl wr.heap.size wr) t
        exact equal_same fp gp fn fc gn gc _ _ (r1.below' hbd) (r2.below' hbd)
      clear r1 r2
      go_wp2_with fail
      go_quiet ((go_at_call 21; exact Calls.quiet_of_same (hEq _)))
      go_wp2_with fail
      go_roundw
      case rel => exact ⟨k + 1, by omega, by go_num, below_drewN hbr _⟩
      case measure => simp [intOf]; omega
    · obtain rfl : k = 8 := by omega
      have hbE := hb.trans (hbr.mono hb.size)
      clear hE1 hE2 hF hG
      go_wp2_with fail
      go_ret
      exact ⟨rfl, hbE⟩

/-- A disk without power over a change that is none of its own: of no keep nothing is asked. -/
theorem DA.chK {S : Nat → Prop} {w w' : World} {B : Nat} {own own' : Nat → Nat} {a g : Nat} {d : Dk} {m : PD} (h : DA w B own a g d m) (hc : Ch S w w') (hg : ¬ S g) (hs : ∀ i k, i < 8 → own k = mark a i → ¬ S k) (hk : m.keep = [])
    (ho : ∀ k, k < w.heap.size → own' k = own k) (hf : ∀ k, w'.heap.size ≤ k → own' k = 0) : DA w' B own' a g d m := by
  have hkn : d.kn = 0 := by have := h.keep.len; rw [hk] at this; exact this.symm
  exact ⟨h.dc.ch hc hg, h.room, h.down, h.left, h.cl, fun i hi => (h.fm i hi).ch hc (fun k => hs i k hi) ho, h.keep.ch0 hc (fun x e h0 => by omega), (ho g h.dc.lt).trans h.og, fun x e => ⟨(ho _ (h.ok x e).2.2).trans (h.ok x e).1, (h.ok x e).2.1, Nat.lt_of_lt_of_le (h.ok x e).2.2 hc.size⟩, h.bg, hf⟩

theorem mark_apart {a b i j : Nat} (hi : i < 8) (hj : j < 8) (h : a ≠ b) : mark a i ≠ mark b j := by
  unfold mark
  omega

theorem step_room (m : PD) (k : Dq) : (m.step k).1.room = m.room := by
  unfold PD.step
  split
  · rfl
  split
  · rfl
  split
  · rfl
  split
  · split <;> rfl
  split
  · rfl
  split
  · exact act_room _ _ _
  split
  · exact act_room _ _ _
  split
  · rfl
  · exact act_room _ _ _

theorem playN_room (m : PD) (ls : List Dv) : ∀ k, (playN m ls k).room = m.room
  | 0 => rfl
  | k + 1 => (step_room _ _).trans (playN_room m ls k)

theorem used_le {m : PD} {s : Nat} (h : m.ok s) : m.used ≤ 8 * s := by
  have t0 := h.told 0 (by decide)
  have t1 := h.told 1 (by decide)
  have t2 := h.told 2 (by decide)
  have t3 := h.told 3 (by decide)
  have t4 := h.told 4 (by decide)
  have t5 := h.told 5 (by decide)
  have t6 := h.told 6 (by decide)
  have t7 := h.told 7 (by decide)
  unfold PD.used
  omega

/-- n as the law takes it: 1 to two more than there are bytes. -/
theorem modN (n : Int) (l : Nat) (hl : l ≤ 16384) : ∃ N : Nat, 1 ≤ N ∧ N ≤ l + 2 ∧ 1 + (IntKind.u64.wrap n).tmod ((l : Int) + 2) = (N : Int) := by
  have h0 : 0 ≤ IntKind.u64.wrap n := by
    rw [IntKind.wrap_u64]
    omega
  obtain ⟨M, hM⟩ := Int.eq_ofNat_of_zero_le h0
  rw [hM]
  have hlt := Nat.mod_lt M (show 0 < l + 2 by omega)
  refine ⟨1 + M % (l + 2), by omega, by omega, ?_⟩
  have : ((M : Int).tmod ((l : Int) + 2)) = ((M % (l + 2) : Nat) : Int) := by
    rw [Int.tmod_eq_emod_of_nonneg (Int.natCast_nonneg _)]
    rfl
  rw [this]
  omega

end Go.Proofs.Ytcgpdaalehgjdaa.M
