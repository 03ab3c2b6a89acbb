/-
  Own text: what a command makes of a chain: the contract of ledger's change.
-/
import Derived.Test.YtcnkpgbmegppbaaYFirst
namespace Go.Proofs.Ytcnkpgbmegppbaa.M
open Go.ChangeShapes Go.WideShapes Go.ChangeAt Go.RowKit

theorem Told.parts {B : Nat} {w : World} {v : Value} {R : CR} (h : Told B w v R) : ∃ E q N c K, v = .tuple #[.agg #[.int .i64 E, .slice q N c], .int .i64 K] ∧ ∀ r x y, r < B → Told B ((w.setCell ⟨r, 0, none⟩ x).setCell ⟨r, 1, none⟩ y) v R := by
  match R, h with
  | .error k, h => exact ⟨0, none, 0, 0, k, h, fun _ _ _ _ => h⟩
  | .ok (e, ms), ⟨q, c, h1, h3, h2⟩ =>
    exact ⟨e, q, ms.length, c, 0, h1, fun r x y hr => ⟨q, c, h1, h3, h2.put _ _ (fun a ha h0 => by have := h3 a ha h0; omega)⟩⟩

/-- A chain behind a command. -/
def chR (k nd st : Int) (e : Int) (ms : List Mb) : CR :=
  if (k == 1) = true then cutR (fun m => m.n == nd) e ms else
  if (k == 5) = true then cutR (fun m => m.s == st) e ms else
  if (k == 2) = true then joinR e ms ⟨nd, st, false⟩ else
  if (k == 3) = true then againR e ms nd else readyR e ms nd

set_option maxRecDepth 20000 in
set_option maxHeartbeats 4000000 in
theorem change_any (k nd st ep : Int) (e : Int) (p : Option Addr) (n c : Nat) (ms : List Mb) (w : World) (hr : RdM w p n c ms) (hn : n ≤ 5864062014805) :
    Calls Try.prog 53 #[.agg #[.int .i64 e, .slice p n c], .agg #[.int .i64 k, .int .i64 nd, .int .i64 st, .int .i64 ep]] w fun r w' => ∃ v, r = .returned v ∧ Told w.heap.size w' v (chR k nd st e ms) ∧ Below w.heap.size w w' := by
  have hF := Gr.new2 w e p n c (.cells #[.int .i64 k, .int .i64 nd, .int .i64 st, .int .i64 ep] 23)
  have hb0 : Below w.heap.size w (((w.alloc (.cells #[.int .i64 e, .slice p n c] 42)).alloc (.cells #[.int .i64 k, .int .i64 nd, .int .i64 st, .int .i64 ep] 23)).alloc (.cells #[.int .i64 0, .slice none 0 0] 42)) := (((Below.refl _ _).alloc (Nat.le_refl _) _).alloc (by simp) _).alloc (by simp; omega) _
  have hr0 := hr.below hb0
  clear hr
  generalize hw : w.heap.size = b at *
  go_enter Try.func53, Try.ntmps53
  cases q0 : (k == 1) with
  | true =>
    have hX := Drop_any e p n c ms nd _ hr0 hn
    go_wp2_with fail
    generalize (((w.alloc (.cells #[.int .i64 e, .slice p n c] 42)).alloc (.cells #[.int .i64 k, .int .i64 nd, .int .i64 st, .int .i64 ep] 23)).alloc (.cells #[.int .i64 0, .slice none 0 0] 42)) = w0 at *
    refine hX.mono ?_
    rintro r w1 ⟨v, rfl, hT, hb1⟩
    have HT : Told w0.heap.size w1 v (chR k nd st e ms) := by
      unfold chR; rw [if_pos q0]
      exact hT
    obtain ⟨E, q, N, cc, K, rfl, hTp⟩ := HT.parts
    have hlt0 := hF.lt
    have hF1 := hF.below hb1
    have hB1 := hb0.trans (hb1.mono (by omega))
    clear hX hT HT hb0 hb1 hF
    have hF2 := hF1
    obtain ⟨a0, a1, b0, b1, f0, f1, lt, br⟩ := hF2
    go_wp2_with fail
    exact bodyPost_ret (results_chain (p := 4) (u := 5) rfl _ _ (b + 1 + 1) _ _ rfl (hF1.put0 _ _) (hF1.put1 _ _)) rfl ⟨_, rfl, (hTp (b + 1 + 1) _ _ (by omega)).lower (by omega), Gr.putB hB1 (show b ≤ b + 1 + 1 by omega) _ _⟩
  | false =>
    cases q1 : (k == 5) with
    | true =>
      have hX := DropSite_any e p n c ms st _ hr0 hn
      go_wp2_with fail
      generalize (((w.alloc (.cells #[.int .i64 e, .slice p n c] 42)).alloc (.cells #[.int .i64 k, .int .i64 nd, .int .i64 st, .int .i64 ep] 23)).alloc (.cells #[.int .i64 0, .slice none 0 0] 42)) = w0 at *
      refine hX.mono ?_
      rintro r w1 ⟨v, rfl, hT, hb1⟩
      have HT : Told w0.heap.size w1 v (chR k nd st e ms) := by
        unfold chR; rw [if_neg (by rw [q0]; decide), if_pos q1]
        exact hT
      obtain ⟨E, q, N, cc, K, rfl, hTp⟩ := HT.parts
      have hlt0 := hF.lt
      have hF1 := hF.below hb1
      have hB1 := hb0.trans (hb1.mono (by omega))
      clear hX hT HT hb0 hb1 hF
      have hF2 := hF1
      obtain ⟨a0, a1, b0, b1, f0, f1, lt, br⟩ := hF2
      go_wp2_with fail
      exact bodyPost_ret (results_chain (p := 4) (u := 5) rfl _ _ (b + 1 + 1) _ _ rfl (hF1.put0 _ _) (hF1.put1 _ _)) rfl ⟨_, rfl, (hTp (b + 1 + 1) _ _ (by omega)).lower (by omega), Gr.putB hB1 (show b ≤ b + 1 + 1 by omega) _ _⟩
    | false =>
      cases q2 : (k == 2) with
      | true =>
        have hX := Join_any e p n c ms ⟨nd, st, false⟩ _ hr0 hn
        go_wp2_with fail
        generalize (((w.alloc (.cells #[.int .i64 e, .slice p n c] 42)).alloc (.cells #[.int .i64 k, .int .i64 nd, .int .i64 st, .int .i64 ep] 23)).alloc (.cells #[.int .i64 0, .slice none 0 0] 42)) = w0 at *
        refine hX.mono ?_
        rintro r w1 ⟨v, rfl, hT, hb1⟩
        have HT : Told w0.heap.size w1 v (chR k nd st e ms) := by
          unfold chR; rw [if_neg (by rw [q0]; decide), if_neg (by rw [q1]; decide), if_pos q2]
          exact hT
        obtain ⟨E, q, N, cc, K, rfl, hTp⟩ := HT.parts
        have hlt0 := hF.lt
        have hF1 := hF.below hb1
        have hB1 := hb0.trans (hb1.mono (by omega))
        clear hX hT HT hb0 hb1 hF
        have hF2 := hF1
        obtain ⟨a0, a1, b0, b1, f0, f1, lt, br⟩ := hF2
        go_wp2_with fail
        exact bodyPost_ret (results_chain (p := 4) (u := 5) rfl _ _ (b + 1 + 1) _ _ rfl (hF1.put0 _ _) (hF1.put1 _ _)) rfl ⟨_, rfl, (hTp (b + 1 + 1) _ _ (by omega)).lower (by omega), Gr.putB hB1 (show b ≤ b + 1 + 1 by omega) _ _⟩
      | false =>
        cases q3 : (k == 3) with
        | true =>
          have hX := Again_any e p n c ms nd _ hr0 hn
          go_wp2_with fail
          generalize (((w.alloc (.cells #[.int .i64 e, .slice p n c] 42)).alloc (.cells #[.int .i64 k, .int .i64 nd, .int .i64 st, .int .i64 ep] 23)).alloc (.cells #[.int .i64 0, .slice none 0 0] 42)) = w0 at *
          refine hX.mono ?_
          rintro r w1 ⟨v, rfl, hT, hb1⟩
          have HT : Told w0.heap.size w1 v (chR k nd st e ms) := by
            unfold chR; rw [if_neg (by rw [q0]; decide), if_neg (by rw [q1]; decide), if_neg (by rw [q2]; decide), if_pos q3]
            exact hT
          obtain ⟨E, q, N, cc, K, rfl, hTp⟩ := HT.parts
          have hlt0 := hF.lt
          have hF1 := hF.below hb1
          have hB1 := hb0.trans (hb1.mono (by omega))
          clear hX hT HT hb0 hb1 hF
          have hF2 := hF1
          obtain ⟨a0, a1, b0, b1, f0, f1, lt, br⟩ := hF2
          go_wp2_with fail
          exact bodyPost_ret (results_chain (p := 4) (u := 5) rfl _ _ (b + 1 + 1) _ _ rfl (hF1.put0 _ _) (hF1.put1 _ _)) rfl ⟨_, rfl, (hTp (b + 1 + 1) _ _ (by omega)).lower (by omega), Gr.putB hB1 (show b ≤ b + 1 + 1 by omega) _ _⟩
        | false =>
          have hX := Ready_any e p n c ms nd _ hr0 hn
          go_wp2_with fail
          generalize (((w.alloc (.cells #[.int .i64 e, .slice p n c] 42)).alloc (.cells #[.int .i64 k, .int .i64 nd, .int .i64 st, .int .i64 ep] 23)).alloc (.cells #[.int .i64 0, .slice none 0 0] 42)) = w0 at *
          refine hX.mono ?_
          rintro r w1 ⟨v, rfl, hT, hb1⟩
          have HT : Told w0.heap.size w1 v (chR k nd st e ms) := by
            unfold chR; rw [if_neg (by rw [q0]; decide), if_neg (by rw [q1]; decide), if_neg (by rw [q2]; decide), if_neg (by rw [q3]; decide)]
            exact hT
          obtain ⟨E, q, N, cc, K, rfl, hTp⟩ := HT.parts
          have hlt0 := hF.lt
          have hF1 := hF.below hb1
          have hB1 := hb0.trans (hb1.mono (by omega))
          clear hX hT HT hb0 hb1 hF
          have hF2 := hF1
          obtain ⟨a0, a1, b0, b1, f0, f1, lt, br⟩ := hF2
          go_wp2_with fail
          exact bodyPost_ret (results_chain (p := 4) (u := 5) rfl _ _ (b + 1 + 1) _ _ rfl (hF1.put0 _ _) (hF1.put1 _ _)) rfl ⟨_, rfl, (hTp (b + 1 + 1) _ _ (by omega)).lower (by omega), Gr.putB hB1 (show b ≤ b + 1 + 1 by omega) _ _⟩

end Go.Proofs.Ytcnkpgbmegppbaa.M
