/-
  Own text: the walk of the law WireShort.
-/
import Derived.Test.YtbbcondoenmapacAwake
import Derived.Test.YtbbcondoenmapacOpen
namespace Go.Proofs.Ytbbcondoenmapac.M
open Go.ChangeShapes Go.WideShapes Go.ChangeAt Go.RowKit

theorem putL_mono (b : Nat) : ∀ a, a ≤ b → (putL a).length ≤ (putL b).length := by
  induction b using Nat.strongRecOn with
  | _ b ih =>
    intro a h
    by_cases ha : a < 128
    · have := putL_pos b
      rw [putL_small ha]
      exact this
    · rw [putL_great (m := a) (by omega), putL_great (m := b) (by omega), List.length_cons, List.length_cons]
      have := ih (b / 128) (by omega) (a / 128) (by omega)
      omega

set_option maxRecDepth 20000 in
theorem put_one (z : Int) (w : World) (h0 : 0 ≤ z) (h1 : z < 18446744073709551616) :
    Calls Try.prog 5 #[.slice none 0 0, .slice (some ⟨w.heap.size, 0, none⟩) 1 1] (w.alloc (.cells #[.int .u64 z] 22)) fun e w' => ∃ p c, e = .returned (.slice p (putL z.toNat).length c) ∧ Below w.heap.size w w' := by
  have h := put_any none 0 0 [] _ 1 1 [z] _ (Rd.empty _ _ _ _ (fun _ => rfl)) (Rd.one .u64 w 22 z) (Wd.one h0 h1) (by decide) (by decide)
  refine h.mono ?_
  simp only [Nat.zero_add, putAll_one]
  rintro e w' ⟨p, c, rfl, ho, hb⟩
  exact ⟨p, c, rfl, (below_alloc _ _).trans (hb.mono (by simp))⟩

set_option maxRecDepth 20000 in
theorem walk_WireShort (w : World) (n : Int) (hn : (Lit.int .u64 n).wf = true) (m : Int) (hm : (Lit.int .u64 m).wf = true) :
    Calls Try.prog 3 #[.int .u64 n, .int .u64 m] w fun e w' => e = .returned (.bool true) ∧ Below w.heap.size w w' := by
  obtain ⟨n1, n2⟩ := u64_bounds hn
  obtain ⟨m1, m2⟩ := u64_bounds hm
  clear hn hm
  have key : ∀ a b : Int, 0 ≤ a → a ≤ b → b ≤ 18446744073709551615 → 0 < (putL a.toNat).length ∧ (putL a.toNat).length ≤ (putL b.toNat).length ∧ (putL b.toNat).length ≤ 10 := fun a b h0 h1 h2 => ⟨putL_pos _, putL_mono _ _ (by omega), putL_len (by omega)⟩
  rcases (show n < m ∨ n = m ∨ m < n by omega) with h | h | h
  · have hk := key n m n1 (by omega) m2
    have c1 := fun W => put_one n W n1 (by omega)
    have c2 := fun W => put_one m W m1 (by omega)
    clear key
    generalize (putL n.toNat).length = x at hk c1
    generalize (putL m.toNat).length = y at hk c2
    go_enter Try.func3, Try.ntmps3
    go_wp2_with fail
    refine (c1 _).mono ?_
    rintro e w1 ⟨p1, d1, rfl, hb1⟩
    go_wp2_with fail
    refine (c2 _).mono ?_
    rintro e w2 ⟨p2, d2, rfl, hb2⟩
    have hbb := Below.via hb1 hb2 (Nat.le_refl _)
    clear hb1 hb2 c1 c2
    go_wp2_with fail
    refine (awake_any _).mono ?_
    rintro e w5 ⟨rfl, hb5⟩
    have hbb5 := Below.via hbb hb5 (Nat.le_refl _)
    go_wp2_with fail
    go_ret
    exact ⟨rfl, hbb5⟩
  · subst h
    have hk := key n n n1 (by omega) n2
    have c1 := fun W => put_one n W n1 (by omega)
    have c2 := fun W => put_one n W n1 (by omega)
    clear key
    generalize (putL n.toNat).length = x at hk c1 c2
    go_enter Try.func3, Try.ntmps3
    go_wp2_with fail
    refine (c1 _).mono ?_
    rintro e w1 ⟨p1, d1, rfl, hb1⟩
    go_wp2_with fail
    refine (c2 _).mono ?_
    rintro e w2 ⟨p2, d2, rfl, hb2⟩
    have hbb := Below.via hb1 hb2 (Nat.le_refl _)
    clear hb1 hb2 c1 c2
    go_wp2_with fail
    refine (awake_any _).mono ?_
    rintro e w5 ⟨rfl, hb5⟩
    have hbb5 := Below.via hbb hb5 (Nat.le_refl _)
    go_wp2_with fail
    go_ret
    exact ⟨rfl, hbb5⟩
  · have hk := key m n m1 (by omega) n2
    have c1 := fun W => put_one m W m1 (by omega)
    have c2 := fun W => put_one n W n1 (by omega)
    clear key
    generalize (putL m.toNat).length = x at hk c1
    generalize (putL n.toNat).length = y at hk c2
    go_enter Try.func3, Try.ntmps3
    go_wp2_with fail
    refine (c1 _).mono ?_
    rintro e w1 ⟨p1, d1, rfl, hb1⟩
    go_wp2_with fail
    refine (c2 _).mono ?_
    rintro e w2 ⟨p2, d2, rfl, hb2⟩
    have hbb := Below.via hb1 hb2 (Nat.le_refl _)
    clear hb1 hb2 c1 c2
    go_wp2_with fail
    refine (awake_any _).mono ?_
    rintro e w5 ⟨rfl, hb5⟩
    have hbb5 := Below.via hbb hb5 (Nat.le_refl _)
    go_wp2_with fail
    go_ret
    exact ⟨rfl, hbb5⟩

end Go.Proofs.Ytbbcondoenmapac.M
