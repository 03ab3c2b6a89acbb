/-
  Own text: write of a tape, whatever the fuse is and whether there is room.
-/
import Derived.Test.YtpjhadaiodnnaaaTState
import Derived.Test.YtpjhadaiodnnaaaETot
namespace Go.Proofs.Ytpjhadaiodnnaaa.M
open Go.ChangeShapes Go.WideShapes Go.ChangeAt Go.RowKit
set_option linter.unusedSimpArgs false

/-- A disk with power, of at most s bytes a row. -/
structure Fit (m : PD) (s : Nat) : Prop where
  ok : m.ok s
  up : m.down = false

theorem act_room (m : PD) (n : Nat) (X : Nat → Nat → PF) : (m.act n X).room = m.room := by
  unfold PD.act
  split
  · rfl
  · split <;> rfl

theorem act_up {m : PD} {n : Nat} {X : Nat → Nat → PF} (h : m.down = false) (hg : m.gone n = false) : (m.act n X).down = false := by
  unfold PD.gone at hg
  have hg := of_decide_eq_false hg
  unfold PD.act
  by_cases h0 : m.left = 0
  · rw [if_pos h0]; exact h
  · rw [if_neg h0, if_neg (by omega)]; exact h

theorem act_f {m : PD} {n : Nat} {X : Nat → Nat → PF} (hg : m.gone n = false) : (m.act n X).f = X n := by
  unfold PD.gone at hg
  have hg := of_decide_eq_false hg
  unfold PD.act
  by_cases h0 : m.left = 0
  · rw [if_pos h0]
  · rw [if_neg h0, if_neg (by omega)]

/-- What a disk is behind a write of a file, and what is answered. -/
def wrM (m : PD) (i : Nat) (bs : List Int) : PD × Int :=
  if m.gone 1 = true then (m.clearAt i, 50)
  else if m.room < (m.clearAt i).used + bs.length then (m.clearAt i, 7)
  else if (m.clearAt i).gone bs.length = true then ((m.clearAt i).putAt i bs, 50)
  else (((m.clearAt i).putAt i bs).syncAt i, goneE (((m.clearAt i).putAt i bs).gone 1))

theorem wrM_ok {m : PD} {s i : Nat} (h : m.ok s) (hi : i < 8) (bs : List Int) : (wrM m i bs).1.ok (s + bs.length) := by
  unfold wrM
  split
  · exact (h.clearAt hi).mono (Nat.le_add_right _ _)
  · split
    · exact (h.clearAt hi).mono (Nat.le_add_right _ _)
    · split
      · exact (h.clearAt hi).putAt hi bs
      · exact ((h.clearAt hi).putAt hi bs).syncAt hi

set_option maxRecDepth 20000 in
set_option maxHeartbeats 2000000 in
theorem write_any (w : World) (B : Nat) (own : Nat → Nat) (a g : Nat) (d : Dk) (m : PD) (s : Nat) (h : DA w B own a g d m) (hm : Fit m s) (hs : s ≤ 274877906944) (hB : B ≤ w.heap.size) (i : Nat) (hi : i < 8)
    (gt : Nat) (hT : w.cell? ⟨gt, 0, none⟩ = some (.pointer (some ⟨g, 0, none⟩))) (hgo : own gt ≠ mark a i) (hgg : gt ≠ g)
    (p : Option Addr) (n c : Nat) (bs : List Int) (hb : Rd .u8 w p n c bs) (hbo : ∀ x, p = some x → 0 < n → own x.block ≠ mark a i ∧ x.block ≠ g) (hl : n ≤ 274877906944) :
    Calls Try.prog 57 #[.pointer (some ⟨gt, 0, none⟩), .int .i64 i, .slice p n c] w fun e w' => e = .returned (.int .i64 (wrM m i bs).2) ∧ ∃ own2 d2, DA w' B own2 a g d2 (wrM m i bs).1 ∧ (∀ k, k < w.heap.size → own2 k = own k) ∧ Ch (fun k => k = g ∨ own k = mark a i) w w' := by
  have hr := hm.ok.r0
  have hrm := hm.ok.r1
  have hC := Clear_ok w B own a g d m h hr hm.up (hm.ok.few (by omega)) i hi
  have hgl : gt < w.heap.size := World.block_lt_of_cell? _ _ hT
  have hnS : ∀ k, own k ≠ mark a i → k ≠ g → ¬ (k = g ∨ own k = mark a i) := fun k h1 h2 e => e.elim h2 h1
  have hbl := hb.len
  have HC : Hid (Calls Try.prog 84 #[.pointer (some ⟨g, 0, none⟩), .int .i64 i] w fun e w' => e = .returned (.int .i64 (goneE (m.gone 1))) ∧ ∃ own2 d2, DA w' B own2 a g d2 (m.clearAt i) ∧ (∀ k, k < w.heap.size → own2 k = own k) ∧ Ch (fun k => k = g ∨ own k = mark a i) w w') := hC
  have HNS : Hid (∀ k, own k ≠ mark a i → k ≠ g → ¬ (k = g ∨ own k = mark a i)) := hnS
  clear hC hnS
  cases hg1 : m.gone 1 with
  | true =>
    have HW : Hid (wrM m i bs = (m.clearAt i, 50)) := by show wrM m i bs = _; unfold wrM; rw [if_pos hg1]
    rw [HW.out]
    rw [hg1] at HC
    clear hbl
    go_enter Try.func57, Try.ntmps57
    go_wp2_with fail
    refine HC.out.mono ?_
    rintro e w1 ⟨rfl, own1, d1, h1, ho1, hc1⟩
    show _
    clear HC
    unfold goneE
    rw [if_pos rfl]
    go_wp2_with fail
    go_ret
    exact ⟨rfl, own1, d1, h1, ho1, hc1⟩
  | false =>
    rw [hg1] at HC
    have hup1 : (m.clearAt i).down = false := act_up hm.up hg1
    have hok1 : (m.clearAt i).ok s := hm.ok.clearAt hi
    have hrm1 : (m.clearAt i).room = m.room := act_room _ _ _
    have HA : Hid (∀ (w1 : World) (own1 : Nat → Nat) (d1 : Dk), DA w1 B own1 a g d1 (m.clearAt i) → (∀ k, k < w.heap.size → own1 k = own k) → Ch (fun k => k = g ∨ own k = mark a i) w w1 → w1.cell? ⟨gt, 0, none⟩ = some (.pointer (some ⟨g, 0, none⟩)) ∧ Rd .u8 w1 p n c bs) := fun w1 own1 d1 h1 ho1 hc1 =>
      ⟨(hc1.cell hgl (HNS.out gt hgo hgg)).trans hT, hb.ch0 hc1 fun x e h0 => HNS.out _ (hbo x e h0).1 (hbo x e h0).2⟩
    by_cases hu : m.room < (m.clearAt i).used + bs.length
    · have HW : Hid (wrM m i bs = (m.clearAt i, 7)) := by show wrM m i bs = _; unfold wrM; rw [if_neg (by rw [hg1]; decide), if_pos hu]
      rw [HW.out]
      have HF : Hid (∀ (w1 : World) (own1 : Nat → Nat) (d1 : Dk), DA w1 B own1 a g d1 (m.clearAt i) → Calls Try.prog 11 #[.pointer (some ⟨g, 0, none⟩), .int .i64 i, .slice p n c] w1 fun e w' => e = .returned (.int .i64 7) ∧ Below w1.heap.size w1 w') := fun w1 own1 d1 h1 =>
        Append_full w1 B own1 a g d1 _ h1 hok1.r0 hup1 (hok1.few (by omega)) i hi p n c (by omega) (by rw [hrm1, ← hbl]; exact hu) hok1.r1
      clear hbl hu hok1 hup1 hrm1
      go_enter Try.func57, Try.ntmps57
      go_wp2_with fail
      refine HC.out.mono ?_
      rintro e w1 ⟨rfl, own1, d1, h1, ho1, hc1⟩
      clear HC
      obtain ⟨hT1, _⟩ := HA.out w1 own1 d1 h1 ho1 hc1
      have hF := HF.out w1 own1 d1 h1
      unfold goneE
      rw [if_neg (by decide)]
      go_wp2_with fail
      refine hF.mono ?_
      rintro e w2 ⟨rfl, hb2⟩
      clear hF HF HA
      go_wp2_with fail
      go_ret
      exact ⟨rfl, own1, d1, h1.below hb2, ho1, hc1.trans (Ch.of_below hb2 _)⟩
    · have HF : Hid (∀ (w1 : World) (own1 : Nat → Nat) (d1 : Dk), DA w1 B own1 a g d1 (m.clearAt i) → B ≤ w1.heap.size → Rd .u8 w1 p n c bs → Calls Try.prog 11 #[.pointer (some ⟨g, 0, none⟩), .int .i64 i, .slice p n c] w1 fun e w' => e = .returned (.int .i64 (goneE ((m.clearAt i).gone bs.length))) ∧ ∃ own2 d2, DA w' B own2 a g d2 ((m.clearAt i).putAt i bs) ∧ (∀ k, k < w1.heap.size → own2 k = own1 k) ∧ Ch (fun k => k = g ∨ own1 k = mark a i) w1 w') := fun w1 own1 d1 h1 hB1 hb1 => by
        have h2 := Append_gen w1 B own1 a g d1 _ h1 hok1.r0 hup1 (hok1.few (by omega)) hB1 i hi p n c bs hb1 (fun x e h0 => (hbo x e h0).2) (by omega) (by rw [hrm1, ← hbl]; omega) hok1.r1
        rw [hbl]
        unfold PD.putAt
        rw [hbl]
        exact h2
      have hnu : ¬ m.room < (m.clearAt i).used + bs.length := hu
      clear hu
      cases hg2 : (m.clearAt i).gone bs.length with
      | true =>
        have HW : Hid (wrM m i bs = ((m.clearAt i).putAt i bs, 50)) := by show wrM m i bs = _; unfold wrM; rw [if_neg (by rw [hg1]; decide), if_neg hnu, if_pos hg2]
        rw [HW.out]
        rw [hg2] at HF
        clear hbl hnu hok1 hup1 hrm1 hg2
        go_enter Try.func57, Try.ntmps57
        go_wp2_with fail
        refine HC.out.mono ?_
        rintro e w1 ⟨rfl, own1, d1, h1, ho1, hc1⟩
        clear HC
        obtain ⟨hT1, hb1⟩ := HA.out w1 own1 d1 h1 ho1 hc1
        have hF := HF.out w1 own1 d1 h1 (Nat.le_trans hB hc1.size) hb1
        unfold goneE
        rw [if_neg (by decide)]
        go_wp2_with fail
        refine hF.mono ?_
        rintro e w2 ⟨rfl, own2, d2, h2, ho2, hc2⟩
        clear hF HF HA
        unfold goneE
        rw [if_pos rfl]
        go_wp2_with fail
        go_ret
        exact ⟨rfl, own2, d2, h2, fun k hk => (ho2 k (Nat.lt_of_lt_of_le hk hc1.size)).trans (ho1 k hk), hc1.then hc2 (fun j hj e => e.imp id (fun e => by rw [← ho1 j hj]; exact e))⟩
      | false =>
        have HW : Hid (wrM m i bs = (((m.clearAt i).putAt i bs).syncAt i, goneE (((m.clearAt i).putAt i bs).gone 1))) := by show wrM m i bs = _; unfold wrM; rw [if_neg (by rw [hg1]; decide), if_neg hnu, if_neg (by rw [hg2]; decide)]
        rw [HW.out]
        rw [hg2] at HF
        have hup2 : ((m.clearAt i).putAt i bs).down = false := act_up hup1 hg2
        have hok2 : ((m.clearAt i).putAt i bs).ok (s + bs.length) := hok1.putAt hi bs
        have HS : Hid (∀ (w1 : World) (own1 : Nat → Nat) (d1 : Dk), DA w1 B own1 a g d1 ((m.clearAt i).putAt i bs) → Calls Try.prog 54 #[.pointer (some ⟨g, 0, none⟩), .int .i64 i] w1 fun e w' => e = .returned (.int .i64 (goneE (((m.clearAt i).putAt i bs).gone 1))) ∧ ∃ own2 d2, DA w' B own2 a g d2 (((m.clearAt i).putAt i bs).syncAt i) ∧ (∀ k, k < w1.heap.size → own2 k = own1 k) ∧ Ch (fun k => k = g ∨ own1 k = mark a i) w1 w') := fun w1 own1 d1 h1 =>
          Sync_ok w1 B own1 a g d1 _ h1 hok2.r0 hup2 (hok2.few (by omega)) i hi
        obtain ⟨c3, Hc3⟩ : ∃ z, Hid (z = goneE (((m.clearAt i).putAt i bs).gone 1)) := ⟨_, rfl⟩
        rw [← Hc3.out] at HS ⊢
        clear hbl hnu hok1 hup1 hrm1 hg2 hup2 hok2
        go_enter Try.func57, Try.ntmps57
        go_wp2_with fail
        refine HC.out.mono ?_
        rintro e w1 ⟨rfl, own1, d1, h1, ho1, hc1⟩
        clear HC
        obtain ⟨hT1, hb1⟩ := HA.out w1 own1 d1 h1 ho1 hc1
        have hF := HF.out w1 own1 d1 h1 (Nat.le_trans hB hc1.size) hb1
        unfold goneE
        rw [if_neg (by decide)]
        go_wp2_with fail
        refine hF.mono ?_
        rintro e w2 ⟨rfl, own2, d2, h2, ho2, hc2⟩
        clear hF HF HA
        have hcc2 := hc1.then hc2 (fun j hj e => e.imp id (fun e => by rw [← ho1 j hj]; exact e))
        have ho2' : ∀ k, k < w.heap.size → own2 k = own k := fun k hk => (ho2 k (Nat.lt_of_lt_of_le hk hc1.size)).trans (ho1 k hk)
        have hT2 : w2.cell? ⟨gt, 0, none⟩ = some (.pointer (some ⟨g, 0, none⟩)) := (hcc2.cell hgl (HNS.out gt hgo hgg)).trans hT
        have hS := HS.out w2 own2 d2 h2
        clear ho2 hc2 hT1 hb1 hT
        unfold goneE
        rw [if_neg (by decide)]
        go_wp2_with fail
        refine hS.mono ?_
        rintro e w3 ⟨rfl, own3, d3, h3, ho3, hc3⟩
        clear hS HS
        have hcc3 := hcc2.then hc3 (fun j hj e => e.imp id (fun e => by rw [← ho2' j hj]; exact e))
        go_wp2_with fail
        go_ret
        exact ⟨rfl, own3, d3, h3, fun k hk => (ho3 k (Nat.lt_of_lt_of_le hk hcc2.size)).trans (ho2' k hk), hcc3⟩

end Go.Proofs.Ytpjhadaiodnnaaa.M
