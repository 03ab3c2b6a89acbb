/-
  Own text: a call's two boxes while its slices are cloned.
-/
import Derived.Test.YtcgpdaalehgjdaaRPl
namespace Go.Proofs.Ytcgpdaalehgjdaa.M
open Go.ChangeShapes Go.WideShapes Go.ChangeAt Go.RowKit

theorem sizeSi : (Try.prog.info? 33).map (·.size) = some 1 := by kernel_rfl

/-- A call x in one box, y in another. -/
def PS (wB : World) (b10 b11 : Nat) (x y : Dv) (V : World) : Prop := x.at V b10 0 ∧ y.at V b11 0 ∧ (∀ j, V.frozen? ⟨b11, j, none⟩ = false) ∧ Rd .u8 V x.bq x.bl x.bc x.b ∧ Rd .i64 V x.kq x.kl x.kc x.keep ∧ Below wB.heap.size wB V

theorem Dv.at.grow {w w' : World} {b o : Nat} {x : Dv} (h : x.at w b o) (hb : Below w.heap.size w w') : x.at w' b o := h.below hb (World.block_lt_of_cell? _ _ h.c0)

theorem PS.stays (wB : World) (b10 b11 : Nat) (x y : Dv) : Stays (PS wB b10 b11 x y) := fun V V' h hb =>
  ⟨h.1.grow hb, h.2.1.grow hb, fun j => by rw [hb.frozen (p := ⟨b11, j, none⟩) (show b11 < V.heap.size from World.block_lt_of_cell? _ _ h.2.1.c0)]; exact h.2.2.1 j, h.2.2.2.1.below' hb, h.2.2.2.2.1.below' hb, h.2.2.2.2.2.trans (hb.mono h.2.2.2.2.2.size)⟩

theorem PS1.stays (wB : World) (b10 b11 : Nat) (x y : Dv) (p1 : Option Addr) (c1 : Nat) : Stays (fun U => PS wB b10 b11 x y U ∧ OwS .u8 5 U wB.heap.size p1 x.bl c1 x.b) := fun U U' h hb =>
  ⟨PS.stays wB b10 b11 x y U U' h.1 hb, h.2.below hb⟩

theorem PS2.stays (wB : World) (b10 b11 : Nat) (x y : Dv) (p1 : Option Addr) (c1 : Nat) (p2 : Option Addr) (c2 : Nat) : Stays (fun U => (PS wB b10 b11 x y U ∧ OwS .u8 5 U wB.heap.size p1 x.bl c1 x.b) ∧ OwS .i64 3 U wB.heap.size p2 x.kl c2 x.keep ∧ (∀ a b : Addr, p1 = some a → p2 = some b → a.block ≠ b.block)) := fun U U' h hb =>
  ⟨PS1.stays wB b10 b11 x y p1 c1 U U' h.1 hb, h.2.1.below hb, h.2.2⟩

/-- Behind a store into the second box. -/
def PT3 (wB : World) (b10 b11 : Nat) (x y : Dv) (p1 : Option Addr) (c1 : Nat) (p2 : Option Addr) (c2 : Nat) (V : World) : Prop :=
  x.at V b10 0 ∧ y.at V b11 0 ∧ (∀ j, V.frozen? ⟨b11, j, none⟩ = false) ∧ OwS .u8 5 V wB.heap.size p1 x.bl c1 x.b ∧ OwS .i64 3 V wB.heap.size p2 x.kl c2 x.keep ∧ (∀ a b : Addr, p1 = some a → p2 = some b → a.block ≠ b.block) ∧ Ch (fun j => j = b11) wB V

theorem PT3.stays (wB : World) (b10 b11 : Nat) (x y : Dv) (p1 : Option Addr) (c1 : Nat) (p2 : Option Addr) (c2 : Nat) : Stays (PT3 wB b10 b11 x y p1 c1 p2 c2) := fun V V' h hb =>
  ⟨h.1.grow hb, h.2.1.grow hb, fun j => by rw [hb.frozen (p := ⟨b11, j, none⟩) (show b11 < V.heap.size from World.block_lt_of_cell? _ _ h.2.1.c0)]; exact h.2.2.1 j, h.2.2.2.1.below hb, h.2.2.2.2.1.below hb, h.2.2.2.2.2.1, h.2.2.2.2.2.2.trans (Ch.of_below hb _)⟩

theorem Dv.at.other {w : World} {b o g j : Nat} {x : Dv} (h : x.at w b o) (hne : b ≠ g) (v : Value) : x.at (w.setCell ⟨g, j, none⟩ v) b o := by
  have hh : ∀ (q : Nat), (w.setCell ⟨g, j, none⟩ v).cell? ⟨b, q, none⟩ = w.cell? ⟨b, q, none⟩ := fun q => World.cell?_setCell_other (h := fun e => hne (congrArg Addr.block e).symm) ..
  exact ⟨by rw [hh]; exact h.c0, by rw [hh]; exact h.c1, by rw [hh]; exact h.c2, by rw [hh]; exact h.c3, by rw [hh]; exact h.c4⟩

theorem Dv.at.set3 {w : World} {b : Nat} {x : Dv} (h : x.at w b 0) (p : Option Addr) (n c : Nat) : ({ x with bq := p, bl := n, bc := c } : Dv).at (w.setCell ⟨b, 3, none⟩ (.slice p n c)) b 0 := by
  have hh : ∀ (q : Nat), q ≠ 3 → (w.setCell ⟨b, 3, none⟩ (.slice p n c)).cell? ⟨b, q, none⟩ = w.cell? ⟨b, q, none⟩ := fun q hq => World.cell?_setCell_other (h := fun e => hq (congrArg Addr.off e).symm) ..
  exact ⟨by rw [hh _ (by decide)]; exact h.c0, by rw [hh _ (by decide)]; exact h.c1, by rw [hh _ (by decide)]; exact h.c2, World.cell?_setCell_same _ _ _ h.c3, by rw [hh _ (by decide)]; exact h.c4⟩

theorem Dv.at.set4 {w : World} {b : Nat} {x : Dv} (h : x.at w b 0) (p : Option Addr) (n c : Nat) : ({ x with kq := p, kl := n, kc := c } : Dv).at (w.setCell ⟨b, 4, none⟩ (.slice p n c)) b 0 := by
  have hh : ∀ (q : Nat), q ≠ 4 → (w.setCell ⟨b, 4, none⟩ (.slice p n c)).cell? ⟨b, q, none⟩ = w.cell? ⟨b, q, none⟩ := fun q hq => World.cell?_setCell_other (h := fun e => hq (congrArg Addr.off e).symm) ..
  exact ⟨by rw [hh _ (by decide)]; exact h.c0, by rw [hh _ (by decide)]; exact h.c1, by rw [hh _ (by decide)]; exact h.c2, by rw [hh _ (by decide)]; exact h.c3, World.cell?_setCell_same _ _ _ h.c4⟩

theorem PS2.put3 {wB : World} {b10 b11 : Nat} {x y : Dv} {p1 : Option Addr} {c1 : Nat} {p2 : Option Addr} {c2 : Nat} {V : World} (h : (PS wB b10 b11 x y V ∧ OwS .u8 5 V wB.heap.size p1 x.bl c1 x.b) ∧ OwS .i64 3 V wB.heap.size p2 x.kl c2 x.keep ∧ (∀ a b : Addr, p1 = some a → p2 = some b → a.block ≠ b.block)) (hne : b10 ≠ b11) (_h10 : b10 < wB.heap.size) (h11 : b11 < wB.heap.size) :
    PT3 wB b10 b11 x { y with bq := p1, bl := x.bl, bc := c1 } p1 c1 p2 c2 (V.setCell ⟨b11, 3, none⟩ (.slice p1 x.bl c1)) := by
  have hc := Ch.setCell V ⟨b11, 3, none⟩ (.slice p1 x.bl c1)
  refine ⟨h.1.1.1.other hne _, h.1.1.2.1.set3 _ _ _, fun j => by rw [World.frozen?_setCell]; exact h.1.1.2.2.1 j, h.1.2.ch hc (fun a e => ?_), h.2.1.ch hc (fun a e => ?_), h.2.2, (Ch.of_below h.1.1.2.2.2.2.2 _).trans hc⟩
  · show ¬ a.block = b11
    have := (h.1.2.lt e).1
    omega
  · show ¬ a.block = b11
    have := (h.2.1.lt e).1
    omega

theorem PT3.put4 {wB : World} {b10 b11 : Nat} {x y : Dv} {p1 : Option Addr} {c1 : Nat} {p2 : Option Addr} {c2 : Nat} {V : World} (h : PT3 wB b10 b11 x y p1 c1 p2 c2 V) (hne : b10 ≠ b11) (_h10 : b10 < wB.heap.size) (h11 : b11 < wB.heap.size) :
    PT3 wB b10 b11 x { y with kq := p2, kl := x.kl, kc := c2 } p1 c1 p2 c2 (V.setCell ⟨b11, 4, none⟩ (.slice p2 x.kl c2)) := by
  have hc := Ch.setCell V ⟨b11, 4, none⟩ (.slice p2 x.kl c2)
  refine ⟨h.1.other hne _, h.2.1.set4 _ _ _, fun j => by rw [World.frozen?_setCell]; exact h.2.2.1 j, h.2.2.2.1.ch hc (fun a e => ?_), h.2.2.2.2.1.ch hc (fun a e => ?_), h.2.2.2.2.2.1, h.2.2.2.2.2.2.trans hc⟩
  · show ¬ a.block = b11
    have := (h.2.2.2.1.lt e).1
    omega
  · show ¬ a.block = b11
    have := (h.2.2.2.2.1.lt e).1
    omega

end Go.Proofs.Ytcgpdaalehgjdaa.M
