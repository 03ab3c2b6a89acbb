/-
  Own text: the contracts of the law's does and also.
-/
import Derived.Test.YtnhdfojbffaifaaYRefJ
namespace Go.Proofs.Ytnhdfojbffaifaa.M
open Go.ChangeShapes Go.WideShapes Go.ChangeAt Go.RowKit

theorem Told.parts {B : Nat} {w : World} {v : Value} {R : CR} (h : Told B w v R) : ∃ E q N c K, v = .tuple #[.agg #[.int .i64 E, .slice q N c], .int .i64 K] ∧ ∀ r x y, r < B → Told B ((w.setCell ⟨r, 0, none⟩ x).setCell ⟨r, 1, none⟩ y) v R := by
  match R, h with
  | .error k, h => exact ⟨0, none, 0, 0, k, h, fun _ _ _ _ => h⟩
  | .ok (e, ms), ⟨q, c, h1, h3, h2⟩ =>
    exact ⟨e, q, ms.length, c, 0, h1, fun r x y hr => ⟨q, c, h1, h3, h2.put _ _ (fun a ha h0 => by have := h3 a ha h0; omega)⟩⟩

/-- A chain behind a change. -/
def dR (op nd st : Int) (fr : Bool) (e : Int) (ms : List Mb) : CR :=
  if (wrap64 ((IntKind.u64.wrap op).tmod 5) == 0) = true then cutR (fun m => m.n == nd) e ms else
  if (wrap64 ((IntKind.u64.wrap op).tmod 5) == 1) = true then cutR (fun m => m.s == st) e ms else
  if (wrap64 ((IntKind.u64.wrap op).tmod 5) == 2) = true then joinR e ms ⟨nd, st, fr⟩ else
  if (wrap64 ((IntKind.u64.wrap op).tmod 5) == 3) = true then againR e ms nd else readyR e ms nd

section
variable {op nd st : Int} {fr : Bool} {e : Int} {ms : List Mb}
theorem dR0 (h : (wrap64 ((IntKind.u64.wrap op).tmod 5) == 0) = true) : dR op nd st fr e ms = cutR (fun m => m.n == nd) e ms := by unfold dR; rw [if_pos h]
theorem dR1 (h0 : (wrap64 ((IntKind.u64.wrap op).tmod 5) == 0) = false) (h : (wrap64 ((IntKind.u64.wrap op).tmod 5) == 1) = true) : dR op nd st fr e ms = cutR (fun m => m.s == st) e ms := by unfold dR; rw [if_neg (by rw [h0]; decide), if_pos h]
theorem dR2 (h0 : (wrap64 ((IntKind.u64.wrap op).tmod 5) == 0) = false) (h1 : (wrap64 ((IntKind.u64.wrap op).tmod 5) == 1) = false) (h : (wrap64 ((IntKind.u64.wrap op).tmod 5) == 2) = true) : dR op nd st fr e ms = joinR e ms ⟨nd, st, fr⟩ := by unfold dR; rw [if_neg (by rw [h0]; decide), if_neg (by rw [h1]; decide), if_pos h]
theorem dR3 (h0 : (wrap64 ((IntKind.u64.wrap op).tmod 5) == 0) = false) (h1 : (wrap64 ((IntKind.u64.wrap op).tmod 5) == 1) = false) (h2 : (wrap64 ((IntKind.u64.wrap op).tmod 5) == 2) = false) (h : (wrap64 ((IntKind.u64.wrap op).tmod 5) == 3) = true) : dR op nd st fr e ms = againR e ms nd := by unfold dR; rw [if_neg (by rw [h0]; decide), if_neg (by rw [h1]; decide), if_neg (by rw [h2]; decide), if_pos h]
theorem dR4 (h0 : (wrap64 ((IntKind.u64.wrap op).tmod 5) == 0) = false) (h1 : (wrap64 ((IntKind.u64.wrap op).tmod 5) == 1) = false) (h2 : (wrap64 ((IntKind.u64.wrap op).tmod 5) == 2) = false) (h : (wrap64 ((IntKind.u64.wrap op).tmod 5) == 3) = false) : dR op nd st fr e ms = readyR e ms nd := by unfold dR; rw [if_neg (by rw [h0]; decide), if_neg (by rw [h1]; decide), if_neg (by rw [h2]; decide), if_neg (by rw [h]; decide)]
end

theorem joinR_fr (e : Int) (ms : List Mb) (a s : Int) (f g : Bool) : joinR e ms ⟨a, s, f⟩ = joinR e ms ⟨a, s, g⟩ := by
  unfold joinR isMb
  rfl

theorem cut_n (e : Int) (ms : List Mb) (nd : Int) : rcutR (kpM nd (-1)) e ms = cutR (fun m => m.n == nd) e ms := cut_eq _ _ e ms fun m hm => by
  have := (isMb_iff m).1 hm
  unfold kpM
  have h : (m.s == -1) = false := by simp; omega
  rw [h]
  simp
theorem cut_n1 (e : Int) (ms : List Mb) (nd : Int) (h1 : nd = -1) : rcutR (kpM (-2) (-1)) e ms = cutR (fun m => m.n == nd) e ms := cut_eq _ _ e ms fun m hm => by
  have := (isMb_iff m).1 hm
  unfold kpM
  have h : (m.s == -1) = false := by simp; omega
  have h2 : (m.n == -2) = false := by simp; omega
  have h3 : (m.n == nd) = false := by simp; omega
  rw [h, h2]
  simp only [h3]
  rfl
theorem cut_s (e : Int) (ms : List Mb) (st : Int) : rcutR (kpM (-1) st) e ms = cutR (fun m => m.s == st) e ms := cut_eq _ _ e ms fun m hm => by
  have := (isMb_iff m).1 hm
  unfold kpM
  have h : (m.n == -1) = false := by simp; omega
  rw [h]
  simp
theorem cut_s1 (e : Int) (ms : List Mb) (st : Int) (h1 : st = -1) : rcutR (kpM (-1) (-2)) e ms = cutR (fun m => m.s == st) e ms := cut_eq _ _ e ms fun m hm => by
  have := (isMb_iff m).1 hm
  unfold kpM
  have h : (m.n == -1) = false := by simp; omega
  have h2 : (m.s == -2) = false := by simp; omega
  have h3 : (m.s == st) = false := by simp; omega
  rw [h, h2]
  simp only [h3]
  rfl

set_option maxRecDepth 20000 in
set_option maxHeartbeats 4000000 in
theorem does_any (op nd st : Int) (fr : Bool) (e : Int) (p : Option Addr) (n c : Nat) (ms : List Mb) (w : World) (hr : RdM w p n c ms) (hn : n ≤ 5864062014805) :
    Calls Try.prog 26 #[.agg #[.int .i64 e, .slice p n c], .agg #[.int .i64 op, .int .i64 nd, .int .i64 st, .bool fr]] w fun r w' => ∃ v, r = .returned v ∧ Told w.heap.size w' v (dR op nd st fr e ms) ∧ Below w.heap.size w w' := by
  have hF := Gr.new2 w e p n c (.cells #[.int .i64 op, .int .i64 nd, .int .i64 st, .bool fr] 39)
  have hb0 : Below w.heap.size w (((w.alloc (.cells #[.int .i64 e, .slice p n c] 24)).alloc (.cells #[.int .i64 op, .int .i64 nd, .int .i64 st, .bool fr] 39)).alloc (.cells #[.int .i64 0, .slice none 0 0] 24)) := (((Below.refl _ _).alloc (Nat.le_refl _) _).alloc (by simp) _).alloc (by simp; omega) _
  have hr0 := hr.below hb0
  clear hr
  generalize hw : w.heap.size = b at *
  go_enter Try.func26, Try.ntmps26
  cases q0 : (wrap64 ((IntKind.u64.wrap op).tmod 5) == 0) with
  | true =>
    have hX := Drop_any e p n c ms nd _ hr0 hn
    go_wp2_with fail
    generalize (((w.alloc (.cells #[.int .i64 e, .slice p n c] 24)).alloc (.cells #[.int .i64 op, .int .i64 nd, .int .i64 st, .bool fr] 39)).alloc (.cells #[.int .i64 0, .slice none 0 0] 24)) = w0 at *
    refine hX.mono ?_
    rintro r w1 ⟨v, rfl, hT, hb1⟩
    have HT : Told w0.heap.size w1 v (dR op nd st fr e ms) := by
      rw [dR0 q0]
      exact hT
    obtain ⟨E, q, N, cc, K, rfl, hTp⟩ := HT.parts
    have hlt0 := hF.lt
    have hF1 := hF.below hb1
    have hB1 := hb0.trans (hb1.mono (by omega))
    clear hX hT HT hb0 hb1 hF
    have hF2 := hF1
    obtain ⟨a0, a1, b0, b1, f0, f1, lt, br⟩ := hF2
    go_wp2_with fail
    exact bodyPost_ret (results_chain (p := 4) (u := 5) rfl _ _ (b + 1 + 1) _ _ rfl (hF1.put0 _ _) (hF1.put1 _ _)) rfl ⟨_, rfl, (hTp (b + 1 + 1) _ _ (by omega)).lower (by omega), Gr.putB hB1 (show b ≤ b + 1 + 1 by omega) _ _⟩
  | false =>
    cases q1 : (wrap64 ((IntKind.u64.wrap op).tmod 5) == 1) with
    | true =>
      have hX := DropSite_any e p n c ms st _ hr0 hn
      go_wp2_with fail
      generalize (((w.alloc (.cells #[.int .i64 e, .slice p n c] 24)).alloc (.cells #[.int .i64 op, .int .i64 nd, .int .i64 st, .bool fr] 39)).alloc (.cells #[.int .i64 0, .slice none 0 0] 24)) = w0 at *
      refine hX.mono ?_
      rintro r w1 ⟨v, rfl, hT, hb1⟩
      have HT : Told w0.heap.size w1 v (dR op nd st fr e ms) := by
        rw [dR1 q0 q1]
        exact hT
      obtain ⟨E, q, N, cc, K, rfl, hTp⟩ := HT.parts
      have hlt0 := hF.lt
      have hF1 := hF.below hb1
      have hB1 := hb0.trans (hb1.mono (by omega))
      clear hX hT HT hb0 hb1 hF
      have hF2 := hF1
      obtain ⟨a0, a1, b0, b1, f0, f1, lt, br⟩ := hF2
      go_wp2_with fail
      exact bodyPost_ret (results_chain (p := 4) (u := 5) rfl _ _ (b + 1 + 1) _ _ rfl (hF1.put0 _ _) (hF1.put1 _ _)) rfl ⟨_, rfl, (hTp (b + 1 + 1) _ _ (by omega)).lower (by omega), Gr.putB hB1 (show b ≤ b + 1 + 1 by omega) _ _⟩
    | false =>
      cases q2 : (wrap64 ((IntKind.u64.wrap op).tmod 5) == 2) with
      | true =>
        have hX := Join_any e p n c ms ⟨nd, st, fr⟩ _ hr0 hn
        go_wp2_with fail
        generalize (((w.alloc (.cells #[.int .i64 e, .slice p n c] 24)).alloc (.cells #[.int .i64 op, .int .i64 nd, .int .i64 st, .bool fr] 39)).alloc (.cells #[.int .i64 0, .slice none 0 0] 24)) = w0 at *
        refine hX.mono ?_
        rintro r w1 ⟨v, rfl, hT, hb1⟩
        have HT : Told w0.heap.size w1 v (dR op nd st fr e ms) := by
          rw [dR2 q0 q1 q2]
          exact hT
        obtain ⟨E, q, N, cc, K, rfl, hTp⟩ := HT.parts
        have hlt0 := hF.lt
        have hF1 := hF.below hb1
        have hB1 := hb0.trans (hb1.mono (by omega))
        clear hX hT HT hb0 hb1 hF
        have hF2 := hF1
        obtain ⟨a0, a1, b0, b1, f0, f1, lt, br⟩ := hF2
        go_wp2_with fail
        exact bodyPost_ret (results_chain (p := 4) (u := 5) rfl _ _ (b + 1 + 1) _ _ rfl (hF1.put0 _ _) (hF1.put1 _ _)) rfl ⟨_, rfl, (hTp (b + 1 + 1) _ _ (by omega)).lower (by omega), Gr.putB hB1 (show b ≤ b + 1 + 1 by omega) _ _⟩
      | false =>
        cases q3 : (wrap64 ((IntKind.u64.wrap op).tmod 5) == 3) with
        | true =>
          have hX := Again_any e p n c ms nd _ hr0 hn
          go_wp2_with fail
          generalize (((w.alloc (.cells #[.int .i64 e, .slice p n c] 24)).alloc (.cells #[.int .i64 op, .int .i64 nd, .int .i64 st, .bool fr] 39)).alloc (.cells #[.int .i64 0, .slice none 0 0] 24)) = w0 at *
          refine hX.mono ?_
          rintro r w1 ⟨v, rfl, hT, hb1⟩
          have HT : Told w0.heap.size w1 v (dR op nd st fr e ms) := by
            rw [dR3 q0 q1 q2 q3]
            exact hT
          obtain ⟨E, q, N, cc, K, rfl, hTp⟩ := HT.parts
          have hlt0 := hF.lt
          have hF1 := hF.below hb1
          have hB1 := hb0.trans (hb1.mono (by omega))
          clear hX hT HT hb0 hb1 hF
          have hF2 := hF1
          obtain ⟨a0, a1, b0, b1, f0, f1, lt, br⟩ := hF2
          go_wp2_with fail
          exact bodyPost_ret (results_chain (p := 4) (u := 5) rfl _ _ (b + 1 + 1) _ _ rfl (hF1.put0 _ _) (hF1.put1 _ _)) rfl ⟨_, rfl, (hTp (b + 1 + 1) _ _ (by omega)).lower (by omega), Gr.putB hB1 (show b ≤ b + 1 + 1 by omega) _ _⟩
        | false =>
          have hX := Ready_any e p n c ms nd _ hr0 hn
          go_wp2_with fail
          generalize (((w.alloc (.cells #[.int .i64 e, .slice p n c] 24)).alloc (.cells #[.int .i64 op, .int .i64 nd, .int .i64 st, .bool fr] 39)).alloc (.cells #[.int .i64 0, .slice none 0 0] 24)) = w0 at *
          refine hX.mono ?_
          rintro r w1 ⟨v, rfl, hT, hb1⟩
          have HT : Told w0.heap.size w1 v (dR op nd st fr e ms) := by
            rw [dR4 q0 q1 q2 q3]
            exact hT
          obtain ⟨E, q, N, cc, K, rfl, hTp⟩ := HT.parts
          have hlt0 := hF.lt
          have hF1 := hF.below hb1
          have hB1 := hb0.trans (hb1.mono (by omega))
          clear hX hT HT hb0 hb1 hF
          have hF2 := hF1
          obtain ⟨a0, a1, b0, b1, f0, f1, lt, br⟩ := hF2
          go_wp2_with fail
          exact bodyPost_ret (results_chain (p := 4) (u := 5) rfl _ _ (b + 1 + 1) _ _ rfl (hF1.put0 _ _) (hF1.put1 _ _)) rfl ⟨_, rfl, (hTp (b + 1 + 1) _ _ (by omega)).lower (by omega), Gr.putB hB1 (show b ≤ b + 1 + 1 by omega) _ _⟩

set_option maxRecDepth 20000 in
set_option maxHeartbeats 4000000 in
theorem also_any (op nd st : Int) (fr : Bool) (e : Int) (p : Option Addr) (n c : Nat) (ms : List Mb) (w : World) (hr : RdM w p n c ms) (hn : n ≤ 5864062014805) :
    Calls Try.prog 27 #[.agg #[.int .i64 e, .slice p n c], .agg #[.int .i64 op, .int .i64 nd, .int .i64 st, .bool fr]] w fun r w' => ∃ v, r = .returned v ∧ Told w.heap.size w' v (dR op nd st fr e ms) ∧ Below w.heap.size w w' := by
  have hF := Gr.new2 w e p n c (.cells #[.int .i64 op, .int .i64 nd, .int .i64 st, .bool fr] 39)
  have hb0 : Below w.heap.size w (((w.alloc (.cells #[.int .i64 e, .slice p n c] 24)).alloc (.cells #[.int .i64 op, .int .i64 nd, .int .i64 st, .bool fr] 39)).alloc (.cells #[.int .i64 0, .slice none 0 0] 24)) := (((Below.refl _ _).alloc (Nat.le_refl _) _).alloc (by simp) _).alloc (by simp; omega) _
  have hr0 := hr.below hb0
  clear hr
  generalize hw : w.heap.size = b at *
  go_enter Try.func27, Try.ntmps27
  cases q0 : (wrap64 ((IntKind.u64.wrap op).tmod 5) == 0) with
  | true =>
    by_cases hm : nd = -1
    · have hmb : (nd == -1) = true := by simp [hm]
      have Hm : Hid (nd = -1) := hm
      clear hm
      have hX := rCut_any e p n c ms (-2) (-1) _ hr0 hn
      go_wp2_with fail
      generalize (((w.alloc (.cells #[.int .i64 e, .slice p n c] 24)).alloc (.cells #[.int .i64 op, .int .i64 nd, .int .i64 st, .bool fr] 39)).alloc (.cells #[.int .i64 0, .slice none 0 0] 24)) = w0 at *
      refine hX.mono ?_
      rintro r w1 ⟨v, rfl, hT, hb1⟩
      have HT : Told w0.heap.size w1 v (dR op nd st fr e ms) := by
        rw [dR0 q0, ← cut_n1 e ms nd Hm.out]
        exact hT
      obtain ⟨E, q, N, cc, K, rfl, hTp⟩ := HT.parts
      have hlt0 := hF.lt
      have hF1 := hF.below hb1
      have hB1 := hb0.trans (hb1.mono (by omega))
      clear hX hT HT hb0 hb1 hF
      have hF2 := hF1
      obtain ⟨a0, a1, b0, b1, f0, f1, lt, br⟩ := hF2
      go_wp2_with fail
      exact bodyPost_ret (results_chain (p := 4) (u := 5) rfl _ _ (b + 1 + 1) _ _ rfl (hF1.put0 _ _) (hF1.put1 _ _)) rfl ⟨_, rfl, (hTp (b + 1 + 1) _ _ (by omega)).lower (by omega), Gr.putB hB1 (show b ≤ b + 1 + 1 by omega) _ _⟩
    · have hmb : (nd == -1) = false := by simp [hm]
      have hX := rCut_any e p n c ms nd (-1) _ hr0 hn
      go_wp2_with fail
      generalize (((w.alloc (.cells #[.int .i64 e, .slice p n c] 24)).alloc (.cells #[.int .i64 op, .int .i64 nd, .int .i64 st, .bool fr] 39)).alloc (.cells #[.int .i64 0, .slice none 0 0] 24)) = w0 at *
      refine hX.mono ?_
      rintro r w1 ⟨v, rfl, hT, hb1⟩
      have HT : Told w0.heap.size w1 v (dR op nd st fr e ms) := by
        rw [dR0 q0, ← cut_n]
        exact hT
      obtain ⟨E, q, N, cc, K, rfl, hTp⟩ := HT.parts
      have hlt0 := hF.lt
      have hF1 := hF.below hb1
      have hB1 := hb0.trans (hb1.mono (by omega))
      clear hX hT HT hb0 hb1 hF
      have hF2 := hF1
      obtain ⟨a0, a1, b0, b1, f0, f1, lt, br⟩ := hF2
      go_wp2_with fail
      exact bodyPost_ret (results_chain (p := 4) (u := 5) rfl _ _ (b + 1 + 1) _ _ rfl (hF1.put0 _ _) (hF1.put1 _ _)) rfl ⟨_, rfl, (hTp (b + 1 + 1) _ _ (by omega)).lower (by omega), Gr.putB hB1 (show b ≤ b + 1 + 1 by omega) _ _⟩
  | false =>
    cases q1 : (wrap64 ((IntKind.u64.wrap op).tmod 5) == 1) with
    | true =>
      by_cases hm : st = -1
      · have hmb : (st == -1) = true := by simp [hm]
        have Hm : Hid (st = -1) := hm
        clear hm
        have hX := rCut_any e p n c ms (-1) (-2) _ hr0 hn
        go_wp2_with fail
        generalize (((w.alloc (.cells #[.int .i64 e, .slice p n c] 24)).alloc (.cells #[.int .i64 op, .int .i64 nd, .int .i64 st, .bool fr] 39)).alloc (.cells #[.int .i64 0, .slice none 0 0] 24)) = w0 at *
        refine hX.mono ?_
        rintro r w1 ⟨v, rfl, hT, hb1⟩
        have HT : Told w0.heap.size w1 v (dR op nd st fr e ms) := by
          rw [dR1 q0 q1, ← cut_s1 e ms st Hm.out]
          exact hT
        obtain ⟨E, q, N, cc, K, rfl, hTp⟩ := HT.parts
        have hlt0 := hF.lt
        have hF1 := hF.below hb1
        have hB1 := hb0.trans (hb1.mono (by omega))
        clear hX hT HT hb0 hb1 hF
        have hF2 := hF1
        obtain ⟨a0, a1, b0, b1, f0, f1, lt, br⟩ := hF2
        go_wp2_with fail
        exact bodyPost_ret (results_chain (p := 4) (u := 5) rfl _ _ (b + 1 + 1) _ _ rfl (hF1.put0 _ _) (hF1.put1 _ _)) rfl ⟨_, rfl, (hTp (b + 1 + 1) _ _ (by omega)).lower (by omega), Gr.putB hB1 (show b ≤ b + 1 + 1 by omega) _ _⟩
      · have hmb : (st == -1) = false := by simp [hm]
        have hX := rCut_any e p n c ms (-1) st _ hr0 hn
        go_wp2_with fail
        generalize (((w.alloc (.cells #[.int .i64 e, .slice p n c] 24)).alloc (.cells #[.int .i64 op, .int .i64 nd, .int .i64 st, .bool fr] 39)).alloc (.cells #[.int .i64 0, .slice none 0 0] 24)) = w0 at *
        refine hX.mono ?_
        rintro r w1 ⟨v, rfl, hT, hb1⟩
        have HT : Told w0.heap.size w1 v (dR op nd st fr e ms) := by
          rw [dR1 q0 q1, ← cut_s]
          exact hT
        obtain ⟨E, q, N, cc, K, rfl, hTp⟩ := HT.parts
        have hlt0 := hF.lt
        have hF1 := hF.below hb1
        have hB1 := hb0.trans (hb1.mono (by omega))
        clear hX hT HT hb0 hb1 hF
        have hF2 := hF1
        obtain ⟨a0, a1, b0, b1, f0, f1, lt, br⟩ := hF2
        go_wp2_with fail
        exact bodyPost_ret (results_chain (p := 4) (u := 5) rfl _ _ (b + 1 + 1) _ _ rfl (hF1.put0 _ _) (hF1.put1 _ _)) rfl ⟨_, rfl, (hTp (b + 1 + 1) _ _ (by omega)).lower (by omega), Gr.putB hB1 (show b ≤ b + 1 + 1 by omega) _ _⟩
    | false =>
      cases q2 : (wrap64 ((IntKind.u64.wrap op).tmod 5) == 2) with
      | true =>
        have hX := rJoin_any e p n c ms ⟨nd, st, false⟩ _ hr0 hn
        go_wp2_with fail
        generalize (((w.alloc (.cells #[.int .i64 e, .slice p n c] 24)).alloc (.cells #[.int .i64 op, .int .i64 nd, .int .i64 st, .bool fr] 39)).alloc (.cells #[.int .i64 0, .slice none 0 0] 24)) = w0 at *
        refine hX.mono ?_
        rintro r w1 ⟨v, rfl, hT, hb1⟩
        have HT : Told w0.heap.size w1 v (dR op nd st fr e ms) := by
          rw [dR2 q0 q1 q2, joinR_fr e ms nd st fr false]
          exact hT
        obtain ⟨E, q, N, cc, K, rfl, hTp⟩ := HT.parts
        have hlt0 := hF.lt
        have hF1 := hF.below hb1
        have hB1 := hb0.trans (hb1.mono (by omega))
        clear hX hT HT hb0 hb1 hF
        have hF2 := hF1
        obtain ⟨a0, a1, b0, b1, f0, f1, lt, br⟩ := hF2
        go_wp2_with fail
        exact bodyPost_ret (results_chain (p := 4) (u := 5) rfl _ _ (b + 1 + 1) _ _ rfl (hF1.put0 _ _) (hF1.put1 _ _)) rfl ⟨_, rfl, (hTp (b + 1 + 1) _ _ (by omega)).lower (by omega), Gr.putB hB1 (show b ≤ b + 1 + 1 by omega) _ _⟩
      | false =>
        cases q3 : (wrap64 ((IntKind.u64.wrap op).tmod 5) == 3) with
        | true =>
          have hX := rAgain_any e p n c ms nd _ hr0 hn
          go_wp2_with fail
          generalize (((w.alloc (.cells #[.int .i64 e, .slice p n c] 24)).alloc (.cells #[.int .i64 op, .int .i64 nd, .int .i64 st, .bool fr] 39)).alloc (.cells #[.int .i64 0, .slice none 0 0] 24)) = w0 at *
          refine hX.mono ?_
          rintro r w1 ⟨v, rfl, hT, hb1⟩
          have HT : Told w0.heap.size w1 v (dR op nd st fr e ms) := by
            rw [dR3 q0 q1 q2 q3]
            exact hT
          obtain ⟨E, q, N, cc, K, rfl, hTp⟩ := HT.parts
          have hlt0 := hF.lt
          have hF1 := hF.below hb1
          have hB1 := hb0.trans (hb1.mono (by omega))
          clear hX hT HT hb0 hb1 hF
          have hF2 := hF1
          obtain ⟨a0, a1, b0, b1, f0, f1, lt, br⟩ := hF2
          go_wp2_with fail
          exact bodyPost_ret (results_chain (p := 4) (u := 5) rfl _ _ (b + 1 + 1) _ _ rfl (hF1.put0 _ _) (hF1.put1 _ _)) rfl ⟨_, rfl, (hTp (b + 1 + 1) _ _ (by omega)).lower (by omega), Gr.putB hB1 (show b ≤ b + 1 + 1 by omega) _ _⟩
        | false =>
          have hX := rReady_any e p n c ms nd _ hr0 hn
          go_wp2_with fail
          generalize (((w.alloc (.cells #[.int .i64 e, .slice p n c] 24)).alloc (.cells #[.int .i64 op, .int .i64 nd, .int .i64 st, .bool fr] 39)).alloc (.cells #[.int .i64 0, .slice none 0 0] 24)) = w0 at *
          refine hX.mono ?_
          rintro r w1 ⟨v, rfl, hT, hb1⟩
          have HT : Told w0.heap.size w1 v (dR op nd st fr e ms) := by
            rw [dR4 q0 q1 q2 q3]
            exact hT
          obtain ⟨E, q, N, cc, K, rfl, hTp⟩ := HT.parts
          have hlt0 := hF.lt
          have hF1 := hF.below hb1
          have hB1 := hb0.trans (hb1.mono (by omega))
          clear hX hT HT hb0 hb1 hF
          have hF2 := hF1
          obtain ⟨a0, a1, b0, b1, f0, f1, lt, br⟩ := hF2
          go_wp2_with fail
          exact bodyPost_ret (results_chain (p := 4) (u := 5) rfl _ _ (b + 1 + 1) _ _ rfl (hF1.put0 _ _) (hF1.put1 _ _)) rfl ⟨_, rfl, (hTp (b + 1 + 1) _ _ (by omega)).lower (by omega), Gr.putB hB1 (show b ≤ b + 1 + 1 by omega) _ _⟩

end Go.Proofs.Ytnhdfojbffaifaa.M
