/-
  Own text: the contract of the disk's act: so much of something is done as the fuse lasts.
-/
import Derived.Test.YtpjhadaiodnnaaaEFall
namespace Go.Proofs.Ytpjhadaiodnnaaa.M
open Go.ChangeShapes Go.WideShapes Go.ChangeAt Go.RowKit

/-- A disk behind an act of n bytes, of which X does so many. -/
def PD.act (m : PD) (n : Nat) (X : Nat → Nat → PF) : PD :=
  if m.left = 0 then { m with f := X n } else if m.left ≤ n then ({ m with f := X m.left } : PD).fall m.keep else { m with left := m.left - n, f := X n }

/-- Whether the power goes. -/
def PD.gone (m : PD) (n : Nat) : Bool := decide (0 < m.left ∧ m.left ≤ n)

/-- What is answered. -/
def goneE (b : Bool) : Int := if b then 50 else 0

theorem setLeft_any {w : World} {B : Nat} {own : Nat → Nat} {a g : Nat} {d : Dk} {m : PD} (h : DA w B own a g d m) (n : Nat) : DA (w.setCell ⟨g, 26, none⟩ (.int .i64 n)) B own a g { d with left := n } { m with left := n } :=
  DA.mend (Ch.setCell w ⟨g, 26, none⟩ _) (h.dc.setLeft n) h.room h.down rfl h.cl h.fm h.keep h.og h.ok h.bg h.fr

set_option maxRecDepth 20000 in
theorem act_any (F : FuncId) (hcf : ∀ (args : Array Value) (w : World), (callFunc F args).run Try.prog w = .ok (.enter F args) w) (caps : Array Value) (S : Nat → Prop) (w : World) (B : Nat) (own : Nat → Nat) (a g : Nat) (d : Dk) (m : PD) (h : DA w B own a g d m) (hg : S g) (n : Nat) (X : Nat → Nat → PF)
    (hX : ∀ n1, n1 ≤ n → ∀ i, i < 8 → (X n1 i).told.length ≤ 1099511627776) (hkl : m.keep.length ≤ 1099511627776) (hlm : m.left ≤ 9223372036854775807)
    (hdo : ∀ w1 d1 m1 n1, DA w1 B own a g d1 m1 → m1.f = m.f → n1 ≤ n → Ch (fun k => k = g) w w1 → Calls Try.prog F (#[.int .i64 (n1 : Nat)] ++ caps) w1 fun e w2 => e = .returned (.tuple #[]) ∧ ∃ own2 d2, DA w2 B own2 a g d2 { m1 with f := X n1 } ∧ (∀ k, k < w1.heap.size → own2 k = own k) ∧ Ch S w1 w2) :
    Calls Try.prog 39 #[.pointer (some ⟨g, 0, none⟩), .int .i64 n, .func (.func F) #[] caps] w fun e w' => e = .returned (.int .i64 (goneE (m.gone n))) ∧ ∃ own2 d2, DA w' B own2 a g d2 (m.act n X) ∧ (∀ k, k < w.heap.size → own2 k = own k) ∧ Ch S w w' := by
  have hcr := h.dc.room
  by_cases h0 : m.left = 0
  · have hB := burn_none w g d h.dc (h.left.trans h0) n
    have hD := hdo w d m n h rfl (Nat.le_refl _) (Ch.refl _ _)
    have HA : Hid (m.act n X = { m with f := X n }) := if_pos h0
    have HG : Hid (m.gone n = false) := decide_eq_false (by omega)
    go_enter Try.func39, Try.ntmps39
    go_wp2_with fail
    refine hB.mono ?_
    rintro e w1 ⟨rfl, rfl⟩
    go_wp2_with fail
    refine hD.mono ?_
    rintro e w2 ⟨rfl, own2, d2, hA2, ho2, hc2⟩
    go_wp2_with fail
    go_ret
    exact ⟨by rw [HG.out]; rfl, own2, d2, by rw [HA.out]; exact hA2, ho2, hc2⟩
  · by_cases h1 : m.left ≤ n
    · have hB := burn_out w g d h.dc (by rw [h.left]; omega) n (by rw [h.left]; exact h1)
      rw [h.left] at hB
      have hD := hdo w d m m.left h rfl h1 (Ch.refl _ _)
      have HA : Hid (m.act n X = ({ m with f := X m.left } : PD).fall m.keep) := by
        unfold Hid PD.act
        rw [if_neg h0, if_pos h1]
      have HG : Hid (m.gone n = true) := decide_eq_true (by omega)
      have hX1 := hX m.left h1
      clear hdo hX
      go_enter Try.func39, Try.ntmps39
      go_wp2_with fail
      refine hB.mono ?_
      rintro e w1 ⟨rfl, rfl⟩
      go_wp2_with fail
      refine hD.mono ?_
      rintro e w2 ⟨rfl, own2, d2, hA2, ho2, hc2⟩
      have hkl2 := hA2.keep.len
      have hck := hA2.dc.keep
      have hcr2 := hA2.dc.room
      have hFa := fall_any w2 B own2 a g d2 _ hA2 d2.kp d2.kn d2.kc m.keep hA2.keep (by rw [← hkl2]; exact hkl) (fun x e _ => (hA2.ok x e).2.1) hX1
      clear hA2 hkl2 hB hD
      generalize d2.kp = kp at *
      generalize d2.kn = kn at *
      generalize d2.kc = kc at *
      go_wp2_with fail
      refine hFa.mono ?_
      rintro e w3 ⟨rfl, d3, hA3, hc3⟩
      go_wp2_with fail
      go_ret
      exact ⟨by rw [HG.out]; rfl, own2, d3, by rw [HA.out]; exact hA3, ho2, hc2.trans (hc3.mono fun k _ e => by rw [e]; exact hg)⟩
    · have hB := burn_on w g d h.dc n (by rw [h.left]; omega) (by rw [h.left]; exact hlm)
      rw [h.left] at hB
      have hA1 := setLeft_any h (m.left - n)
      have hc1 := Ch.setCell w ⟨g, 26, none⟩ (.int .i64 ((m.left - n : Nat) : Int))
      have hD := hdo _ _ _ n hA1 rfl (Nat.le_refl _) hc1
      have HA : Hid (m.act n X = { m with left := m.left - n, f := X n }) := by
        unfold Hid PD.act
        rw [if_neg h0, if_neg h1]
      have HG : Hid (m.gone n = false) := decide_eq_false (by omega)
      have hsz : w.heap.size ≤ (w.setCell ⟨g, 26, none⟩ (.int .i64 ((m.left - n : Nat) : Int))).heap.size := hc1.size
      have hc1' := hc1.mono (T := S) fun k _ e => by rw [e]; exact hg
      clear hdo hX hA1 h
      go_enter Try.func39, Try.ntmps39
      go_wp2_with fail
      refine hB.mono ?_
      rintro e w1 ⟨rfl, rfl⟩
      go_wp2_with fail
      refine hD.mono ?_
      rintro e w2 ⟨rfl, own2, d2, hA2, ho2, hc2⟩
      go_wp2_with fail
      go_ret
      exact ⟨by rw [HG.out]; rfl, own2, d2, by rw [HA.out]; exact hA2, fun k hk => ho2 k (Nat.lt_of_lt_of_le hk hsz), hc1'.trans hc2⟩

end Go.Proofs.Ytpjhadaiodnnaaa.M
