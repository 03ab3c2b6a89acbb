/-
  Own text: the contract of Apply for any bytes and any index.
-/
import Derived.Test.YtcnkpgbmegppbaaJApp
import Derived.Test.YtcnkpgbmegppbaaJGood
namespace Go.Proofs.Ytcnkpgbmegppbaa.M
open Go.ChangeShapes Go.WideShapes Go.ChangeAt Go.RowKit

theorem Apply_any (g r : Nat) (s : PL) (w : World) (h : LP w g r s) (hs : s.ok) (i : Int) (p : Option Addr) (n c : Nat) (xs : List Int) (hr : Rd .u8 w p n c xs) (hxb : By xs) (hn : n ≤ 1099511627776) :
    Calls Try.prog 27 #[.pointer (some ⟨g, 0, none⟩), .int .i64 i, .slice p n c] w fun o w' => o = .returned (.int .i64 (s.app i xs).1) ∧ Aft w w' g r (s.app i xs).2 ∧ Ex2 g r w w' := by
  have a0 := hs.at0
  have a1 := hs.at1
  have c6 := chk_parts hs.chk
  have cl := hs.len
  by_cases hi : i = s.at_ + 1 ∧ i ≤ 1099511627776
  · by_cases hx : xs = []
    · have hn0 : n = 0 := by rw [← hr.len, hx]; rfl
      subst hn0
      have e : s.app i xs = (0, { s with at_ := i }) := by unfold PL.app; rw [if_pos hi, if_pos hx]
      rw [e]
      refine (Apply_none g r s w h i p c (by omega) hi).mono ?_
      rintro o w' ⟨h1, h2, h3⟩
      exact ⟨h1, Aft.mk r (Or.inl rfl) h2, h3⟩
    · have h0 : 0 < n := by
        rcases Nat.eq_zero_or_pos n with h | h
        · exact absurd (List.length_eq_zero_iff.1 (hr.len.trans h)) hx
        · exact h
      have e : s.app i xs = s.cmd i (getR xs) := by unfold PL.app; rw [if_pos hi, if_neg hx]
      rw [e]
      match hR : getR xs with
      | none => exact Apply_bad g r s w h i p n c xs hr hxb hn h0 (by omega) hi (by omega) (by omega) hR
      | some (k, nd, st, ep) =>
        by_cases hep : ep = s.e
        · have e2 : s.cmd i (some (k, nd, st, ep)) = s.ch i (chR k nd st s.e s.ms) := if_pos hep
          rw [e2]
          match hc : chR k nd st s.e s.ms with
          | .error er => exact Apply_err g r s w h i p n c xs hr hxb hn h0 (by omega) hi (by omega) (by omega) k nd st ep hR hep er hc
          | .ok (E, M) =>
            by_cases hlt : s.e < E
            · have e3 : s.ch i (.ok (E, M)) = (0, ⟨E, M, i, s.H ++ [(E, M)]⟩) := by unfold PL.ch; dsimp only; rw [if_pos hlt]
              rw [e3]
              exact Apply_new g r s w h i p n c xs hr hxb hn h0 (by omega) hi (by omega) (by omega) k nd st ep hR hep E M hc hlt
            · have e3 : s.ch i (.ok (E, M)) = (0, ⟨E, M, i, s.H⟩) := by unfold PL.ch; dsimp only; rw [if_neg hlt]
              rw [e3]
              exact Apply_rdy g r s w h i p n c xs hr hxb hn h0 (by omega) hi (by omega) (by omega) k nd st ep hR hep E M hc hlt
        · have e2 : s.cmd i (some (k, nd, st, ep)) = (150, { s with at_ := i }) := if_neg hep
          rw [e2]
          exact Apply_ep g r s w h i p n c xs hr hxb hn h0 (by omega) hi (by omega) (by omega) k nd st ep hR hep
  · have e : s.app i xs = (90, s) := by unfold PL.app; rw [if_neg hi]
    rw [e]
    refine (Apply_gap g r s w h i _ ⟨by omega, by omega⟩ hi).mono ?_
    rintro o w' ⟨h1, h2⟩
    subst h2
    exact ⟨h1, Aft.mk r (Or.inl rfl) h, Ex2.refl _ _ _⟩

end Go.Proofs.Ytcnkpgbmegppbaa.M
