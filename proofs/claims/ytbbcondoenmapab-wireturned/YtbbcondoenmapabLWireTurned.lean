/-
  Own text: the walk of the law WireTurned.
-/
import Derived.Test.YtbbcondoenmapabOpenC
import Derived.Test.YtbbcondoenmapabAwake
import Derived.Test.YtbbcondoenmapabOpen
import Derived.Test.YtbbcondoenmapabStore
namespace Go.Proofs.Ytbbcondoenmapab.M
open Go.ChangeShapes Go.WideShapes Go.ChangeAt Go.RowKit

theorem rem_place (a : Int) {n : Nat} (hn : 0 < n) : ∃ t : Nat, t < n ∧ (IntKind.u64.wrap a).tmod (n : Int) = (t : Int) := by
  have h0 : 0 ≤ IntKind.u64.wrap a := by rw [IntKind.wrap_u64]; omega
  obtain ⟨A, hA⟩ := Int.eq_ofNat_of_zero_le h0
  refine ⟨A % n, Nat.mod_lt _ hn, ?_⟩
  rw [hA]
  rfl

theorem xor_other {z y : Nat} (hz : z < 256) (hy : y < 255) : ∃ v : Nat, v < 256 ∧ v ≠ z ∧ bits .xor .u8 (z : Int) (1 + (y : Int)) = (v : Int) := by
  refine ⟨z ^^^ (1 + y), Nat.xor_lt_two_pow (n := 8) hz (by omega), fun h => ?_, ?_⟩
  · have h1 := congrArg (fun q => z ^^^ q) h
    simp only [← Nat.xor_assoc, Nat.xor_self, Nat.zero_xor] at h1
    omega
  · rw [show (1 : Int) + (y : Int) = ((1 + y : Nat) : Int) by omega]
    exact u8_xor_nat z (1 + y) hz (by omega)

set_option maxRecDepth 20000 in
set_option maxHeartbeats 400000 in
theorem walk_WireTurned (w : World) (p : Option Addr) (n c : Nat) (xs : List Int) (hr : Rd .u8 w p n c xs) (hx : ∀ x ∈ xs, (Lit.int .u8 x).wf = true) (at_ : Int) (_hat : (Lit.int .i64 at_).wf = true) (x : Int) (_hxx : (Lit.int .i64 x).wf = true) :
    Calls Try.prog 7 #[.slice p n c, .int .i64 at_, .int .i64 x] w fun e w' => e = .returned (.bool true) ∧ Below w.heap.size w w' := by
  have bx := by_of_wf hx
  clear hx
  have hlen := hr.len
  by_cases h1 : 16384 < n
  · clear hr bx
    go_enter Try.func7, Try.ntmps7
    go_wp2_with fail
    refine (awake_any _).mono ?_
    rintro e w1 ⟨rfl, hb⟩
    go_wp2_with fail
    go_ret
    exact ⟨rfl, hb⟩
  · by_cases h2 : 8192 < n
    · clear hr bx
      go_enter Try.func7, Try.ntmps7
      go_wp2_with fail
      refine (seal_long p n c _ h2).mono ?_
      rintro e w4 ⟨rfl, hw⟩
      subst hw
      go_wp2_with fail
      refine (awake_any _).mono ?_
      rintro e w1 ⟨rfl, hb⟩
      go_wp2_with fail
      go_ret
      exact ⟨rfl, hb⟩
    · have bxl := sealL_by bx
      have hsl := length_sealL xs
      have hpl := putL_len (m := xs.length) (by omega)
      go_enter Try.func7, Try.ntmps7
      go_wp2_with fail
      refine (seal_any p n c xs _ hr bx (by omega)).mono ?_
      rintro e w1 ⟨p1, n1, c1, rfl, ho1, hb1⟩
      have hn1 := ho1.len
      have hn2 : 4 ≤ n1 ∧ n1 ≤ 8300 := by omega
      obtain ⟨g, rfl, hg1, hg2, hown⟩ := ho1.shape (by omega)
      have hcap := ho1.cap
      have hn0 : ((n1 : Int) == 0) = false := by simp; omega
      obtain ⟨t, ht, hmod⟩ := rem_place at_ (n := n1) (by omega)
      obtain ⟨y, hy, hmod2⟩ := rem_place x (n := 255) (by omega)
      have hmod3 : (IntKind.u64.wrap x).tmod 255 = (y : Int) := hmod2
      have hcx : w1.cell? ⟨g, t, none⟩ = some (.int .u8 ((sealL xs).getD t 0)) := by
        obtain ⟨b', o', he, hc⟩ := ho1.rd.cells (by omega)
        cases he
        simpa using hc t ht
      have hfz := hown.frozenAt t
      have hzb := bxl ((sealL xs).getD t 0) (getD_mem (by omega))
      obtain ⟨z, hz⟩ := Int.eq_ofNat_of_zero_le hzb.1
      rw [hz] at hcx hzb
      obtain ⟨v, hv, hvz, hxor⟩ := xor_other (z := z) (y := y) (by omega) hy
      obtain ⟨ho2, hb2⟩ := Ow.store hown hn1 hg1 hb1.size t (v : Int)
      obtain ⟨hsp1, hsp2⟩ := set_split (xs := sealL xs) (t := t) (by omega) (v : Int)
      rw [hz] at hsp1
      have hkey : (openR ((sealL xs).set t (v : Int))).2.2 = 0 → (openR ((sealL xs).set t (v : Int))).2.1 = n1 → False := by
        rw [hsp2, ← hn1]
        exact turned bx hsp1 (by omega) (by omega)
      have hbs : By ((sealL xs).set t (v : Int)) := by
        rw [hsp2]
        exact By.app (bxl.take t) (By.cons (by omega) (bxl.drop _))
      have hop := open_any _ n1 c1 _ _ ho2.rd hbs (by omega)
      generalize (openR ((sealL xs).set t (v : Int))).1.length = l2 at hop
      generalize (openR ((sealL xs).set t (v : Int))).2.1 = m2 at hop hkey
      generalize (openR ((sealL xs).set t (v : Int))).2.2 = e2 at hop hkey
      have hbb2 := Below.trans hb1 hb2
      clear hsl hpl hn1 hlen hr ho1 bxl bx hown hmod2 hsp1 hsp2 hb1 hb2 ho2 hbs hz
      go_wp2_with fail
      refine hop.mono ?_
      rintro e w3 ⟨p3, c3, rfl, _, hb3⟩
      have hbb3 := Below.trans hbb2 (hb3.mono hbb2.size)
      clear hop hb3 hbb2 hcx hfz
      by_cases he2 : e2 = 0
      · have hm2 : ((m2 : Int) != (n1 : Int)) = true := by simp; exact fun h => hkey he2 (by omega)
        have he3 : ((e2 : Int) != 0) = false := by simp [he2]
        clear hkey he2
        go_wp2_with fail
        refine (awake_any _).mono ?_
        rintro e w5 ⟨rfl, hb5⟩
        have hbb5 := Below.via hbb3 hb5 (Nat.le_refl _)
        go_wp2_with fail
        go_ret
        exact ⟨rfl, hbb5⟩
      · have he3 : ((e2 : Int) != 0) = true := by simp; exact he2
        clear hkey he2
        go_wp2_with fail
        refine (awake_any _).mono ?_
        rintro e w5 ⟨rfl, hb5⟩
        have hbb5 := Below.via hbb3 hb5 (Nat.le_refl _)
        go_wp2_with fail
        go_ret
        exact ⟨rfl, hbb5⟩

end Go.Proofs.Ytbbcondoenmapab.M
