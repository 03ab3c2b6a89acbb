/-
  Own text: the contracts of the law's does and also.
-/
import Derived.Test.YtigojnpjpagfjaaDoorYRefJ
namespace Go.Proofs.YtigojnpjpagfjaaDoor.M
open Go.ChangeShapes Go.WideShapes Go.ChangeAt Go.RowKit

theorem Told.parts {B : Nat} {w : World} {v : Value} {R : CR} (h : Told B w v R) : ∃ E q N c K, v = .tuple #[.agg #[.int .i64 E, .slice q N c], .int .i64 K] ∧ ∀ r x y, r < B → Told B ((w.setCell ⟨r, 0, none⟩ x).setCell ⟨r, 1, none⟩ y) v R := by
  match R, h with
  | .error k, h => exact ⟨0, none, 0, 0, k, h, fun _ _ _ _ => h⟩
  | .ok (e, ms), ⟨q, c, h1, h3, h2⟩ =>
    exact ⟨e, q, ms.length, c, 0, h1, fun r x y hr => ⟨q, c, h1, h3, h2.put _ _ (fun a ha h0 => by have := h3 a ha h0; omega)⟩⟩

/-- A chain behind a change. -/
def dR (op nd st : Int) (fr : Bool) (e : Int) (ms : List Mb) : CR :=
  if (wrap64 ((IntKind.u64.wrap op).tmod 5) == 0) = true then cutR (fun m => m.n == nd) e ms else
  if (wrap64 ((IntKind.u64.wrap op).tmod 5) == 1) = true then cutR (fun m => m.s == st) e ms else
  if (wrap64 ((IntKind.u64.wrap op).tmod 5) == 2) = true then joinR e ms ⟨nd, st, fr⟩ else
  if (wrap64 ((IntKind.u64.wrap op).tmod 5) == 3) = true then againR e ms nd else readyR e ms nd

section
variable {op nd st : Int} {fr : Bool} {e : Int} {ms : List Mb}
theorem dR0 (h : (wrap64 ((IntKind.u64.wrap op).tmod 5) == 0) = true) : dR op nd st fr e ms = cutR (fun m => m.n == nd) e ms := by unfold dR; rw [if_pos h]
theorem dR1 (h0 : (wrap64 ((IntKind.u64.wrap op).tmod 5) == 0) = false) (h : (wrap64 ((IntKind.u64.wrap op).tmod 5) == 1) = true) : dR op nd st fr e ms = cutR (fun m => m.s == st) e ms := by unfold dR; rw [if_neg (by rw [h0]; decide), if_pos h]
theorem dR2 (h0 : (wrap64 ((IntKind.u64.wrap op).tmod 5) == 0) = false) (h1 : (wrap64 ((IntKind.u64.wrap op).tmod 5) == 1) = false) (h : (wrap64 ((IntKind.u64.wrap op).tmod 5) == 2) = true) : dR op nd st fr e ms = joinR e ms ⟨nd, st, fr⟩ := by unfold dR; rw [if_neg (by rw [h0]; decide), if_neg (by rw [h1]; decide), if_pos h]
theorem dR3 (h0 : (wrap64 ((IntKind.u64.wrap op).tmod 5) == 0) = false) (h1 : (wrap64 ((IntKind.u64.wrap op).tmod 5) == 1) = false) (h2 : (wrap64 ((IntKind.u64.wrap op).tmod 5) == 2) = false) (h : (wrap64 ((IntKind.u64.wrap op).tmod 5) == 3) = true) : dR op nd st fr e ms = againR e ms nd := by unfold dR; rw [if_neg (by rw [h0]; decide), if_neg (by rw [h1]; decide), if_neg (by rw [h2]; decide), if_pos h]
theorem dR4 (h0 : (wrap64 ((IntKind.u64.wrap op).tmod 5) == 0) = false) (h1 : (wrap64 ((IntKind.u64.wrap op).tmod 5) == 1) = false) (h2 : (wrap64 ((IntKind.u64.wrap op).tmod 5) == 2) = false) (h : (wrap64 ((IntKind.u64.wrap op).tmod 5) == 3) = false) : dR op nd st fr e ms = readyR e ms nd := by unfold dR; rw [if_neg (by rw [h0]; decide), if_neg (by rw [h1]; decide), if_neg (by rw [h2]; decide), if_neg (by rw [h]; decide)]
end

theorem joinR_fr (e : Int) (ms : List Mb) (a s : Int) (f g : Bool) : joinR e ms ⟨a, s, f⟩ = joinR e ms ⟨a, s, g⟩ := by
  unfold joinR isMb
  rfl

theorem cut_n (e : Int) (ms : List Mb) (nd : Int) : rcutR (kpM nd (-1)) e ms = cutR (fun m => m.n == nd) e ms := cut_eq _ _ e ms fun m hm => by
  have := (isMb_iff m).1 hm
  unfold kpM
  have h : (m.s == -1) = false := by simp; omega
  rw [h]
  simp
theorem cut_n1 (e : Int) (ms : List Mb) (nd : Int) (h1 : nd = -1) : rcutR (kpM (-2) (-1)) e ms = cutR (fun m => m.n == nd) e ms := cut_eq _ _ e ms fun m hm => by
  have := (isMb_iff m).1 hm
  unfold kpM
  have h : (m.s == -1) = false := by simp; omega
  have h2 : (m.n == -2) = false := by simp; omega
  have h3 : (m.n == nd) = false := by simp; omega
  rw [h, h2]
  simp only [h3]
  rfl
theorem cut_s (e : Int) (ms : List Mb) (st : Int) : rcutR (kpM (-1) st) e ms = cutR (fun m => m.s == st) e ms := cut_eq _ _ e ms fun m hm => by
  have := (isMb_iff m).1 hm
  unfold kpM
  have h : (m.n == -1) = false := by simp; omega
  rw [h]
  simp
theorem cut_s1 (e : Int) (ms : List Mb) (st : Int) (h1 : st = -1) : rcutR (kpM (-1) (-2)) e ms = cutR (fun m => m.s == st) e ms := cut_eq _ _ e ms fun m hm => by
  have := (isMb_iff m).1 hm
  unfold kpM
  have h : (m.n == -1) = false := by simp; omega
  have h2 : (m.s == -2) = false := by simp; omega
  have h3 : (m.s == st) = false := by simp; omega
  rw [h, h2]
  simp only [h3]
  rfl

end Go.Proofs.YtigojnpjpagfjaaDoor.M
