/-
  Own text: the walk of the law WireCut.
-/
import Derived.Test.YtbbcondoenmapabOpenC
import Derived.Test.YtbbcondoenmapabAwake
import Derived.Test.YtbbcondoenmapabOpen
namespace Go.Proofs.Ytbbcondoenmapab.M
open Go.ChangeShapes Go.WideShapes Go.ChangeAt Go.RowKit

theorem rem_place (a : Int) {n : Nat} (hn : 0 < n) : ∃ t : Nat, t < n ∧ (IntKind.u64.wrap a).tmod (n : Int) = (t : Int) := by
  have h0 : 0 ≤ IntKind.u64.wrap a := by rw [IntKind.wrap_u64]; omega
  obtain ⟨A, hA⟩ := Int.eq_ofNat_of_zero_le h0
  refine ⟨A % n, Nat.mod_lt _ hn, ?_⟩
  rw [hA]
  rfl

set_option maxRecDepth 20000 in
set_option maxHeartbeats 400000 in
theorem walk_WireCut (w : World) (p : Option Addr) (n c : Nat) (xs : List Int) (hr : Rd .u8 w p n c xs) (hx : ∀ x ∈ xs, (Lit.int .u8 x).wf = true) (at_ : Int) (hat : (Lit.int .i64 at_).wf = true) :
    Calls Try.prog 8 #[.slice p n c, .int .i64 at_] w fun e w' => e = .returned (.bool true) ∧ Below w.heap.size w w' := by
  have bx := by_of_wf hx
  obtain ⟨a1, a2⟩ := i64_bounds hat
  clear hx hat
  have hlen := hr.len
  by_cases h1 : 16384 < n
  · clear hr bx
    go_enter Try.func8, Try.ntmps8
    go_wp2_with fail
    refine (awake_any _).mono ?_
    rintro e w1 ⟨rfl, hb⟩
    go_wp2_with fail
    go_ret
    exact ⟨rfl, hb⟩
  · by_cases h2 : 8192 < n
    · clear hr bx
      go_enter Try.func8, Try.ntmps8
      go_wp2_with fail
      refine (seal_long p n c _ h2).mono ?_
      rintro e w4 ⟨rfl, hw⟩
      subst hw
      go_wp2_with fail
      refine (awake_any _).mono ?_
      rintro e w1 ⟨rfl, hb⟩
      go_wp2_with fail
      go_ret
      exact ⟨rfl, hb⟩
    · have bxl := sealL_by bx
      have hsl := length_sealL xs
      have hpl := putL_len (m := xs.length) (by omega)
      go_enter Try.func8, Try.ntmps8
      go_wp2_with fail
      refine (seal_any p n c xs _ hr bx (by omega)).mono ?_
      rintro e w1 ⟨p1, n1, c1, rfl, ho1, hb1⟩
      have hn1 := ho1.len
      have hn2 : 4 ≤ n1 ∧ n1 ≤ 8300 := by omega
      obtain ⟨b, o, rfl, _⟩ := ho1.rd.cells (by omega)
      have hcap := ho1.cap
      have hn0 : ((n1 : Int) == 0) = false := by simp; omega
      obtain ⟨t, ht, hmod⟩ := rem_place at_ (n := n1) (by omega)
      have hcut := openR_cut (ys := xs) (by omega) (t := t) (by omega)
      have hrt : Rd .u8 w1 (some ⟨b, o, none⟩) t c1 ((sealL xs).take t) := by
        have h := ho1.rd.sub 0 t c1 (by omega) (by omega)
        simpa using h
      have hop := open_any _ t c1 _ w1 hrt (bxl.take t) (by omega)
      rw [hcut] at hop
      clear hsl hpl hn1 hlen hr hrt hcut ho1 bxl bx
      go_wp2_with fail
      refine hop.mono ?_
      rintro e w2 ⟨p2, c2, rfl, _, hb2⟩
      have hbb2 := Below.via hb1 hb2 (Nat.le_refl _)
      clear hb1 hb2 hop
      go_wp2_with fail
      refine (awake_any _).mono ?_
      rintro e w5 ⟨rfl, hb5⟩
      have hbb5 := Below.via hbb2 hb5 (Nat.le_refl _)
      go_wp2_with fail
      go_ret
      exact ⟨rfl, hbb5⟩

end Go.Proofs.Ytbbcondoenmapab.M
