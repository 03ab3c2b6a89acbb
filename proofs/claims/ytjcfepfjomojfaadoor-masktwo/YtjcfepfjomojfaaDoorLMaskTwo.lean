/-
  Own text: the walk of the law MaskTwo.
-/
import Derived.Test.YtjcfepfjomojfaaDoorKAt
import Derived.Test.YtjcfepfjomojfaaDoorKRef
import Derived.Test.YtjcfepfjomojfaaDoorDet
import Derived.Test.YtjcfepfjomojfaaDoorOpen
namespace Go.Proofs.YtjcfepfjomojfaaDoor.M
open Go.ChangeShapes Go.WideShapes Go.ChangeAt Go.RowKit

/-- Answers of yes or no, as far as they have been gone through. -/
def upL (p : Nat → Bool) (k : Nat) : List Bool := (List.range 64).map fun i => decide (i < k) && p i

theorem upL_len (p : Nat → Bool) (k : Nat) : (upL p k).length = 64 := by simp [upL]

theorem upL_zero (p : Nat → Bool) : upL p 0 = List.replicate 64 false := by
  apply List.ext_getElem
  · simp [upL]
  · intro i h1 h2
    rw [List.getElem_replicate]
    simp only [upL, List.getElem_map]
    rw [decide_eq_false (by omega)]
    rfl

theorem upL_set (p : Nat → Bool) (k : Nat) : (upL p k).set k (p k) = upL p (k + 1) := by
  apply List.ext_getElem
  · simp [upL]
  · intro i h1 h2
    rw [List.getElem_set]
    simp only [upL, List.getElem_map, List.getElem_range]
    by_cases h : k = i
    · subst h; simp
    · rw [if_neg h]
      congr 1
      simp only [decide_eq_decide]
      omega

theorem upL_end (p : Nat → Bool) (x : Nat) (h : ∀ i, i < 64 → p i = x.testBit i) : upL p 64 = bitL x := by
  unfold upL bitL
  apply List.map_congr_left
  intro i hi
  have hi' : i < 64 := by simpa using hi
  rw [decide_eq_true hi', h i hi']
  rfl

theorem upL_get (p : Nat → Bool) (k : Nat) {i : Nat} (h : i < 64) : (upL p k).getD i false = (decide (i < k) && p i) := by
  rw [List.getD_eq_getElem?_getD, upL, List.getElem?_map, List.getElem?_range h]
  rfl

def orB (x y : Nat) : Nat → Bool := fun i => x.testBit i || y.testBit i
def andB (x y : Nat) : Nat → Bool := fun i => x.testBit i && y.testBit i
def butB (x y : Nat) : Nat → Bool := fun i => x.testBit i && !y.testBit i

theorem orB_end (x y : Nat) : upL (orB x y) 64 = bitL (x ||| y) := upL_end _ _ fun i _ => by rw [Nat.testBit_or]; rfl
theorem andB_end (x y : Nat) : upL (andB x y) 64 = bitL (x &&& y) := upL_end _ _ fun i _ => by rw [Nat.testBit_and]; rfl
theorem butB_end (x y : Nat) (hy : y < 18446744073709551616) : upL (butB x y) 64 = bitL (x &&& (18446744073709551615 - y)) := upL_end _ _ fun i hi => by
  have e : 18446744073709551615 - y = 2 ^ 64 - (y + 1) := by omega
  rw [Nat.testBit_and, e, Nat.testBit_two_pow_sub_succ (show y < 2 ^ 64 from hy), decide_eq_true hi, Bool.true_and]
  rfl

/-- What stands while the two sets are gone through. -/
structure Two (w0 : World) (G : Nat) (X Y O A C : List Bool) (w : World) : Prop where
  x : Arr w G X
  y : Arr w (G + 1) Y
  o : Arr w (G + 1 + 1) O
  a : Arr w (G + 1 + 1 + 1) A
  c : Arr w (G + 1 + 1 + 1 + 1) C
  b : Below w0.heap.size w0 w
  g : w0.heap.size ≤ G

theorem Two.stays (w0 : World) (G : Nat) (X Y O A C : List Bool) : Stays (Two w0 G X Y O A C) := fun _ _ h hb =>
  ⟨h.x.below hb, h.y.below hb, h.o.below hb, h.a.below hb, h.c.below hb, h.b.trans (hb.mono h.b.size), h.g⟩

theorem Two.drew {w0 : World} {G : Nat} {X Y O A C : List Bool} {w : World} (h : Two w0 G X Y O A C w) : Two w0 G X Y O A C w.drew := Two.stays _ _ _ _ _ _ _ w _ h (Below.refl _ _).drew

theorem Arr.range {w : World} {g : Nat} {bs : List Bool} (h : Arr w g bs) : w.rangeAt g 0 (bs.map Value.bool) := by
  intro j v hj
  have hl : j < bs.length := by
    rcases Nat.lt_or_ge j bs.length with h | h
    · exact h
    · rw [List.getElem?_eq_none (by simpa using h)] at hj; cases hj
  rw [Nat.zero_add, h.cell hl, ← hj, List.getElem?_map, List.getD_eq_getElem?_getD, List.getElem?_eq_getElem hl]
  rfl

theorem Arr.far {w : World} {g : Nat} {bs : List Bool} (h : Arr w g bs) (k i : Nat) (v : Value) (hne : k ≠ g) : Arr (w.setCell ⟨k, i, none⟩ v) g bs := by
  unfold Arr
  rw [Below.heap_setCell _ _ _ _ (fun e => hne e.symm)]
  exact h

theorem Two.setO {w0 : World} {G : Nat} {X Y O A C : List Bool} {w : World} (h : Two w0 G X Y O A C w) (k : Nat) (b : Bool) : Two w0 G X Y (O.set k b) A C (w.setCell ⟨G + 1 + 1, k, none⟩ (.bool b)) :=
  ⟨h.x.far _ _ _ (by omega), h.y.far _ _ _ (by omega), h.o.set k b, h.a.far _ _ _ (by omega), h.c.far _ _ _ (by omega), h.b.setCell (by have := h.g; simp; omega) _, h.g⟩
theorem Two.setA {w0 : World} {G : Nat} {X Y O A C : List Bool} {w : World} (h : Two w0 G X Y O A C w) (k : Nat) (b : Bool) : Two w0 G X Y O (A.set k b) C (w.setCell ⟨G + 1 + 1 + 1, k, none⟩ (.bool b)) :=
  ⟨h.x.far _ _ _ (by omega), h.y.far _ _ _ (by omega), h.o.far _ _ _ (by omega), h.a.set k b, h.c.far _ _ _ (by omega), h.b.setCell (by have := h.g; simp; omega) _, h.g⟩
theorem Two.setC {w0 : World} {G : Nat} {X Y O A C : List Bool} {w : World} (h : Two w0 G X Y O A C w) (k : Nat) (b : Bool) : Two w0 G X Y O A (C.set k b) (w.setCell ⟨G + 1 + 1 + 1 + 1, k, none⟩ (.bool b)) :=
  ⟨h.x.far _ _ _ (by omega), h.y.far _ _ _ (by omega), h.o.far _ _ _ (by omega), h.a.far _ _ _ (by omega), h.c.set k b, h.b.setCell (by have := h.g; simp; omega) _, h.g⟩

theorem two_start {w0 W : World} {G : Nat} {X Y : List Bool} (hx : Arr W G X) (hy : Arr W (G + 1) Y) (hb : Below w0.heap.size w0 W) (hs : W.heap.size = G + 1 + 1) (hg : w0.heap.size ≤ G) :
    Two w0 G X Y (List.replicate 64 false) (List.replicate 64 false) (List.replicate 64 false) (((W.alloc (.cells (bools (List.replicate 64 false)) 25)).alloc (.cells (bools (List.replicate 64 false)) 25)).alloc (.cells (bools (List.replicate 64 false)) 25)) := by
  have b1 := (Below.refl W.heap.size W).alloc (Nat.le_refl _) (.cells (bools (List.replicate 64 false)) 25)
  have b2 := (Below.refl (W.alloc (.cells (bools (List.replicate 64 false)) 25)).heap.size (W.alloc (.cells (bools (List.replicate 64 false)) 25))).alloc (Nat.le_refl _) (.cells (bools (List.replicate 64 false)) 25)
  have b3 := (Below.refl ((W.alloc (.cells (bools (List.replicate 64 false)) 25)).alloc (.cells (bools (List.replicate 64 false)) 25)).heap.size ((W.alloc (.cells (bools (List.replicate 64 false)) 25)).alloc (.cells (bools (List.replicate 64 false)) 25))).alloc (Nat.le_refl _) (.cells (bools (List.replicate 64 false)) 25)
  have s1 : (W.alloc (.cells (bools (List.replicate 64 false)) 25)).heap.size = G + 1 + 1 + 1 := by simp [hs]
  have s2 : ((W.alloc (.cells (bools (List.replicate 64 false)) 25)).alloc (.cells (bools (List.replicate 64 false)) 25)).heap.size = G + 1 + 1 + 1 + 1 := by simp [hs]
  have o1 : Arr (W.alloc (.cells (bools (List.replicate 64 false)) 25)) W.heap.size (List.replicate 64 false) := heap_alloc_new _ _
  have a1 : Arr ((W.alloc (.cells (bools (List.replicate 64 false)) 25)).alloc (.cells (bools (List.replicate 64 false)) 25)) (W.alloc (.cells (bools (List.replicate 64 false)) 25)).heap.size (List.replicate 64 false) := heap_alloc_new _ _
  have c1 : Arr (((W.alloc (.cells (bools (List.replicate 64 false)) 25)).alloc (.cells (bools (List.replicate 64 false)) 25)).alloc (.cells (bools (List.replicate 64 false)) 25)) ((W.alloc (.cells (bools (List.replicate 64 false)) 25)).alloc (.cells (bools (List.replicate 64 false)) 25)).heap.size (List.replicate 64 false) := heap_alloc_new _ _
  rw [hs] at o1
  rw [s1] at a1
  rw [s2] at c1
  exact ⟨((hx.below b1).below b2).below b3, ((hy.below b1).below b2).below b3, (o1.below b2).below b3, a1.below b3, c1, ((hb.alloc (by omega) _).alloc (by omega) _).alloc (by omega) _, hg⟩

set_option maxRecDepth 20000 in
set_option linter.unusedSimpArgs false in
set_option maxHeartbeats 10000000 in
theorem two_core (x y : Nat) (w : World) (hT : Tab w) (hx : x < 18446744073709551616) (hy : y < 18446744073709551616) :
    Calls Tryd.prog 3 #[.int .u64 x, .int .u64 y] w fun e w' => e = .returned (.bool true) ∧ Below w.heap.size w w' := by
  have cF1 := from_any x w hx
  have cF2 := fun W => from_any y W hy
  have hix := info_set (bitL x) (bitL_len x)
  have hiy := info_set (bitL y) (bitL_len y)
  have hzx : (bools (List.replicate 64 false)).size = (bools (bitL x)).size := by rw [bools_size, bools_size, bitL_len]; rfl
  have hzy : (bools (List.replicate 64 false)).size = (bools (bitL y)).size := by rw [bools_size, bools_size, bitL_len]; rfl
  go_enter Tryd.func3, Tryd.ntmps3
  go_wp2_with fail
  refine cF1.mono ?_
  rintro e w1 ⟨rfl, hb1⟩
  go_wp2_with fail
  refine (cF2 _).mono ?_
  rintro e w2 ⟨rfl, hb2⟩
  have hbb2 := hb1.trans (hb2.mono hb1.size)
  clear cF1 cF2 hb1 hb2
  have hX1 : Arr ((w2.alloc (.cells (bools (List.replicate 64 false)) 25)).alloc (.cells (bools (List.replicate 64 false)) 25)) w2.heap.size (List.replicate 64 false) := (show Arr (w2.alloc (.cells (bools (List.replicate 64 false)) 25)) w2.heap.size (List.replicate 64 false) from heap_alloc_new _ _).below ((Below.refl _ _).alloc (Nat.le_refl _) _)
  have hY1 : Arr ((w2.alloc (.cells (bools (List.replicate 64 false)) 25)).alloc (.cells (bools (List.replicate 64 false)) 25)) (w2.heap.size + 1) (List.replicate 64 false) := by
    have h3 : (w2.alloc (.cells (bools (List.replicate 64 false)) 25)).heap.size = w2.heap.size + 1 := by simp
    have h4 : Arr ((w2.alloc (.cells (bools (List.replicate 64 false)) 25)).alloc (.cells (bools (List.replicate 64 false)) 25)) _ (List.replicate 64 false) := heap_alloc_new _ _
    rw [h3] at h4
    exact h4
  have hX2 := hX1.setRow (bitL x)
  have hY2 : Arr (((w2.alloc (.cells (bools (List.replicate 64 false)) 25)).alloc (.cells (bools (List.replicate 64 false)) 25)).setRow w2.heap.size (bools (bitL x))) (w2.heap.size + 1) (List.replicate 64 false) := by
    unfold Arr World.setRow
    simp only [Array.getElem?_modify]
    rw [if_neg (by omega)]
    exact hY1
  have hX3 : Arr ((((w2.alloc (.cells (bools (List.replicate 64 false)) 25)).alloc (.cells (bools (List.replicate 64 false)) 25)).setRow w2.heap.size (bools (bitL x))).setRow (w2.heap.size + 1) (bools (bitL y))) w2.heap.size (bitL x) := by
    unfold Arr World.setRow at hX2 ⊢
    rw [Array.getElem?_modify, if_neg (by omega)]
    exact hX2
  have hY3 := hY2.setRow (bitL y)
  have hb3 : Below w.heap.size w ((((w2.alloc (.cells (bools (List.replicate 64 false)) 25)).alloc (.cells (bools (List.replicate 64 false)) 25)).setRow w2.heap.size (bools (bitL x))).setRow (w2.heap.size + 1) (bools (bitL y))) :=
    ((((hbb2.alloc hbb2.size _).alloc (by have := hbb2.size; simp; omega) _).trans (below_setRow _ _ _ hbb2.size)).trans (below_setRow _ _ _ (by have := hbb2.size; omega)))
  have hsz : ((((w2.alloc (.cells (bools (List.replicate 64 false)) 25)).alloc (.cells (bools (List.replicate 64 false)) 25)).setRow w2.heap.size (bools (bitL x))).setRow (w2.heap.size + 1) (bools (bitL y))).heap.size = w2.heap.size + 1 + 1 := by simp [World.setRow]
  go_wp2_with (first | refine wpList_store_row rfl 25 _ _ rfl w2.heap.size (bools (bitL x)) rfl rfl _ _ hX1 hix hzx (bools_one _) ?_ | refine wpList_store_row rfl 25 _ _ rfl (w2.heap.size + 1) (bools (bitL y)) rfl rfl _ _ hY2 hiy hzy (bools_one _) ?_)
  have hT3 := two_start hX3 hY3 hb3 hsz hbb2.size
  generalize w2.heap.size = G at *
  go_loopw [12, 20] (fun b i wr => ∃ k : Nat, k ≤ 64 ∧ i = .int .i64 k ∧ b = .int .i64 ((cnt (andB x y) k : Nat) : Int) ∧ Two w G (bitL x) (bitL y) (upL (orB x y) k) (upL (andB x y) k) (upL (butB x y) k) wr) (fun _ i _ => 64 - (intOf i).toNat)
  case atStart => exact ⟨0, by omega, rfl, rfl, by rw [upL_zero, upL_zero, upL_zero]; exact hT3⟩
  case round =>
    clear hX1 hY1 hX2 hY2 hX3 hY3 hb3 hsz hT3 hbb2 hix hiy hzx hzy
    obtain ⟨k, hk, rfl, rfl, hS⟩ := hrel
    by_cases h64 : k < 64
    · have hle := cnt_le (andB x y) k
      have hcx : wr.cell? ⟨G, k, none⟩ = some (.bool (x.testBit k)) := by rw [hS.x.cell (i := k) (by rw [bitL_len]; exact h64), bitL_get x h64]
      have hcy : wr.cell? ⟨G + 1, k, none⟩ = some (.bool (y.testBit k)) := by rw [hS.y.cell (i := k) (by rw [bitL_len]; exact h64), bitL_get y h64]
      have h0 : ∀ O A C W, Two w G (bitL x) (bitL y) O A C W → W.cell? ⟨G, k, none⟩ = some (.bool (x.testBit k)) ∧ W.cell? ⟨G + 1, k, none⟩ = some (.bool (y.testBit k)) := fun O A C W h =>
        ⟨by rw [h.x.cell (i := k) (by rw [bitL_len]; exact h64), bitL_get x h64], by rw [h.y.cell (i := k) (by rw [bitL_len]; exact h64), bitL_get y h64]⟩
      have hlo := upL_len (orB x y) k
      have hla := upL_len (andB x y) k
      have hlc := upL_len (butB x y) k
      have hlo2 := upL_len (andB x y) (k + 1)
      have ho := upL_set (orB x y) k
      have ha := upL_set (andB x y) k
      have hc := upL_set (butB x y) k
      have Hcnt : Hid (cnt (andB x y) (k + 1) = cnt (andB x y) k + (andB x y k).toNat) := by
        show cnt (andB x y) (k + 1) = _
        rfl
      have hget := upL_get (andB x y) (k + 1) h64
      rw [decide_eq_true (show k < k + 1 by omega), Bool.true_and] at hget
      have eo : orB x y k = (x.testBit k || y.testBit k) := rfl
      have ea : andB x y k = (x.testBit k && y.testBit k) := rfl
      have ec : butB x y k = (x.testBit k && !y.testBit k) := rfl
      rw [eo] at ho
      rw [ea] at ha Hcnt hget
      rw [ec] at hc
      generalize upL (orB x y) k = O at hS hlo ho
      generalize upL (andB x y) k = A at hS hla ha
      generalize upL (butB x y) k = C at hS hlc hc
      generalize cnt (andB x y) k = n0 at Hcnt hle
      generalize x.testBit k = xb at *
      generalize y.testBit k = yb at *
      clear hcx hcy eo ea ec
      have HO : Hid (O.set k (xb || yb) = upL (orB x y) (k + 1)) := ho
      have HA : Hid (A.set k (xb && yb) = upL (andB x y) (k + 1)) := ha
      have HC : Hid (C.set k (xb && !yb) = upL (butB x y) (k + 1)) := hc
      have HG : Hid ((upL (andB x y) (k + 1)).getD k false = (xb && yb)) := hget
      clear ho ha hc hget
      cases xb
      · cases yb
        · go_wp2_with fail
          refine wp_region_det (fun W => W.cell? ⟨G, k, none⟩ = some (.bool false) ∧ W.cell? ⟨G + 1, k, none⟩ = some (.bool false)) (Two w G (bitL x) (bitL y) O A C) (by kernel_rfl) hS.drew ?_
          refine wpDet_take ?vff0 (Two.stays _ _ _ _ _ _ _) (h0 _ _ _) (i := 0) rfl (by kernel_rfl) (by kernel_rfl) (by kernel_rfl) (fun _ _ _ h => h) (Gives.value (by rfl) ?yff0) ?rff0
          case yff0 => (intro w' hSw; (try dsimp only at hSw); go_simp; try with_reducible rfl)
          (try simp only [Act.put, List.getElem_toArray, List.getElem_cons_zero, List.getElem_cons_succ, List.setIfInBounds_toArray, List.set_cons_zero, List.set_cons_succ])
          refine wpDet_take ?vff1 (Two.stays _ _ _ _ _ _ _) (h0 _ _ _) (i := 1) rfl (by kernel_rfl) (by kernel_rfl) (by kernel_rfl) (fun _ _ _ h => h) (Gives.value (by rfl) ?yff1) ?rff1
          case yff1 => (intro w' hSw; (try dsimp only at hSw); go_simp; try with_reducible rfl)
          (try simp only [Act.put, List.getElem_toArray, List.getElem_cons_zero, List.getElem_cons_succ, List.setIfInBounds_toArray, List.set_cons_zero, List.set_cons_succ])
          refine wpDet_take ?vff2 (Two.stays _ _ _ _ _ _ _) (h0 _ _ _) (i := 2) rfl (by kernel_rfl) (by kernel_rfl) (by kernel_rfl) (fun _ _ _ h => h) (Gives.value (by rfl) ?yff2) ?rff2
          case yff2 => (intro w' hSw; (try dsimp only at hSw); go_simp; try with_reducible rfl)
          (try simp only [Act.put, List.getElem_toArray, List.getElem_cons_zero, List.getElem_cons_succ, List.setIfInBounds_toArray, List.set_cons_zero, List.set_cons_succ])
          refine wpDet_take ?vff3 (Two.stays _ _ _ _ _ _ _) (h0 _ _ _) (i := 3) rfl (by kernel_rfl) (by kernel_rfl) (by kernel_rfl) (fun _ _ _ h => h) (Gives.value (by rfl) ?yff3) ?rff3
          case yff3 => (intro w' hSw; (try dsimp only at hSw); go_simp; try with_reducible rfl)
          (try simp only [Act.put, List.getElem_toArray, List.getElem_cons_zero, List.getElem_cons_succ, List.setIfInBounds_toArray, List.set_cons_zero, List.set_cons_succ])
          refine wpDet_take ?vff4 (Two.stays _ _ _ _ _ _ _) (h0 _ _ _) (i := 4) rfl (by kernel_rfl) (by kernel_rfl) (by kernel_rfl) (fun _ _ _ h => h) (Gives.value (by rfl) ?yff4) ?rff4
          case yff4 => (intro w' hSw; (try dsimp only at hSw); go_simp; try with_reducible rfl)
          (try simp only [Act.put, List.getElem_toArray, List.getElem_cons_zero, List.getElem_cons_succ, List.setIfInBounds_toArray, List.set_cons_zero, List.set_cons_succ])
          refine wpDet_take ?vff5 (Two.stays _ _ _ _ _ _ _) (h0 _ _ _) (i := 5) rfl (by kernel_rfl) (by kernel_rfl) (by kernel_rfl) (fun _ _ _ h => h) (Gives.value (by rfl) ?yff5) ?rff5
          case yff5 => (intro w' hSw; obtain ⟨c1, c2⟩ := hSw; (try dsimp only at hSw); go_simp; try with_reducible rfl)
          (try simp only [Act.put, List.getElem_toArray, List.getElem_cons_zero, List.getElem_cons_succ, List.setIfInBounds_toArray, List.set_cons_zero, List.set_cons_succ])
          refine wpDet_take ?vff6 (Two.stays _ _ _ _ _ _ _) (h0 _ _ _) (i := 6) rfl (by kernel_rfl) (by kernel_rfl) (by kernel_rfl) (fun _ _ _ h => h) (Gives.value (by rfl) ?yff6) ?rff6
          case yff6 => (intro w' hSw; (try dsimp only at hSw); go_simp; try with_reducible rfl)
          (try simp only [Act.put, List.getElem_toArray, List.getElem_cons_zero, List.getElem_cons_succ, List.setIfInBounds_toArray, List.set_cons_zero, List.set_cons_succ])
          refine wpDet_take ?vff7 (Two.stays _ _ _ _ _ _ _) (h0 _ _ _) (i := 7) rfl (by kernel_rfl) (by kernel_rfl) (by kernel_rfl) (fun _ _ _ h => h) (Gives.value (by rfl) ?yff7) ?rff7
          case yff7 => (intro w' hSw; (try dsimp only at hSw); go_simp; try with_reducible rfl)
          (try simp only [Act.put, List.getElem_toArray, List.getElem_cons_zero, List.getElem_cons_succ, List.setIfInBounds_toArray, List.set_cons_zero, List.set_cons_succ])
          refine wpDet_take ?vff8 (Two.stays _ _ _ _ _ _ _) (h0 _ _ _) (i := 8) rfl (by kernel_rfl) (by kernel_rfl) (by kernel_rfl) (fun _ _ _ h => h) (Gives.value (by rfl) ?yff8) ?rff8
          case yff8 => (intro w' hSw; (try dsimp only at hSw); go_simp; try with_reducible rfl)
          (try simp only [Act.put, List.getElem_toArray, List.getElem_cons_zero, List.getElem_cons_succ, List.setIfInBounds_toArray, List.set_cons_zero, List.set_cons_succ])
          refine wpDet_take ?vff9 (Two.stays _ _ _ _ _ _ _) (h0 _ _ _) (i := 9) rfl (by kernel_rfl) (by kernel_rfl) (by kernel_rfl) (fun _ _ _ h => h) (Gives.value (by rfl) ?yff9) ?rff9
          case yff9 => (intro w' hSw; obtain ⟨c1, c2⟩ := hSw; (try dsimp only at hSw); go_simp; try with_reducible rfl)
          (try simp only [Act.put, List.getElem_toArray, List.getElem_cons_zero, List.getElem_cons_succ, List.setIfInBounds_toArray, List.set_cons_zero, List.set_cons_succ])
          refine wpDet_take ?vff10 (Two.stays _ _ _ _ _ _ _) (h0 _ _ _) (i := 10) rfl (by kernel_rfl) (by kernel_rfl) (by kernel_rfl) (fun _ _ _ h => h) (Gives.value (by rfl) ?yff10) ?rff10
          case yff10 => (intro w' hSw; (try dsimp only at hSw); go_simp; try with_reducible rfl)
          (try simp only [Act.put, List.getElem_toArray, List.getElem_cons_zero, List.getElem_cons_succ, List.setIfInBounds_toArray, List.set_cons_zero, List.set_cons_succ])
          refine wpDet_take ?vff11 (Two.stays _ _ _ _ _ _ _) (h0 _ _ _) (i := 11) rfl (by kernel_rfl) (by kernel_rfl) (by kernel_rfl) (fun _ _ _ h => h) (Gives.value (by rfl) ?yff11) ?rff11
          case yff11 => (intro w' hSw; (try dsimp only at hSw); go_simp; try with_reducible rfl)
          (try simp only [Act.put, List.getElem_toArray, List.getElem_cons_zero, List.getElem_cons_succ, List.setIfInBounds_toArray, List.set_cons_zero, List.set_cons_succ])
          refine wpDet_take ?vff12 (Two.stays _ _ _ _ _ _ _) (h0 _ _ _) (i := 12) rfl (by kernel_rfl) (by kernel_rfl) (by kernel_rfl) (fun _ _ _ h => h) (Gives.value (by rfl) ?yff12) ?rff12
          case yff12 => (intro w' hSw; (try dsimp only at hSw); go_simp; try with_reducible rfl)
          (try simp only [Act.put, List.getElem_toArray, List.getElem_cons_zero, List.getElem_cons_succ, List.setIfInBounds_toArray, List.set_cons_zero, List.set_cons_succ])
          refine wpDet_take ?vff13 (Two.stays _ _ _ _ _ _ _) (h0 _ _ _) (i := 13) rfl (by kernel_rfl) (by kernel_rfl) (by kernel_rfl) (fun _ _ _ h => h) (Gives.value (by rfl) ?yff13) ?rff13
          case yff13 => (intro w' hSw; obtain ⟨c1, c2⟩ := hSw; (try dsimp only at hSw); go_simp; try with_reducible rfl)
          (try simp only [Act.put, List.getElem_toArray, List.getElem_cons_zero, List.getElem_cons_succ, List.setIfInBounds_toArray, List.set_cons_zero, List.set_cons_succ])
          refine wpDet_take ?vff14 (Two.stays _ _ _ _ _ _ _) (h0 _ _ _) (i := 14) rfl (by kernel_rfl) (by kernel_rfl) (by kernel_rfl) (fun _ _ _ h => h) (Gives.value (by rfl) ?yff14) ?rff14
          case yff14 => (intro w' hSw; (try dsimp only at hSw); go_simp; try with_reducible rfl)
          (try simp only [Act.put, List.getElem_toArray, List.getElem_cons_zero, List.getElem_cons_succ, List.setIfInBounds_toArray, List.set_cons_zero, List.set_cons_succ])
          refine wpDet_take undef (Two.stays _ _ _ _ _ _ _) (h0 _ _ _) (i := 15) rfl (by kernel_rfl) (by kernel_rfl) (by kernel_rfl) (fun _ _ _ h => h) (Gives.not (by rfl)) ?_
          (try simp only [Act.put, List.getElem_toArray, List.getElem_cons_zero, List.getElem_cons_succ, List.setIfInBounds_toArray, List.set_cons_zero, List.set_cons_succ])
          refine wpDet_take undef (Two.stays _ _ _ _ _ _ _) (h0 _ _ _) (i := 16) rfl (by kernel_rfl) (by kernel_rfl) (by kernel_rfl) (fun _ _ _ h => h) (Gives.not (by rfl)) ?_
          (try simp only [Act.put, List.getElem_toArray, List.getElem_cons_zero, List.getElem_cons_succ, List.setIfInBounds_toArray, List.set_cons_zero, List.set_cons_succ])
          refine wpDet_take undef (Two.stays _ _ _ _ _ _ _) (h0 _ _ _) (i := 17) rfl (by kernel_rfl) (by kernel_rfl) (by kernel_rfl) (fun _ _ _ h => h) (Gives.not (by rfl)) ?_
          (try simp only [Act.put, List.getElem_toArray, List.getElem_cons_zero, List.getElem_cons_succ, List.setIfInBounds_toArray, List.set_cons_zero, List.set_cons_succ])
          refine wpDet_take ?vff18 (Two.stays _ _ _ _ _ _ _) (h0 _ _ _) (i := 18) rfl (by kernel_rfl) (by kernel_rfl) (by kernel_rfl) (fun _ _ _ h => h) (Gives.value (by rfl) ?yff18) ?rff18
          case yff18 => (intro w' hSw; (try dsimp only at hSw); go_simp; try with_reducible rfl)
          (try simp only [Act.put, List.getElem_toArray, List.getElem_cons_zero, List.getElem_cons_succ, List.setIfInBounds_toArray, List.set_cons_zero, List.set_cons_succ])
          refine wpDet_take ?vff19 (Two.stays _ _ _ _ _ _ _) (h0 _ _ _) (i := 19) rfl (by kernel_rfl) (by kernel_rfl) (by kernel_rfl) (fun _ _ _ h => h) (Gives.value (by rfl) ?yff19) ?rff19
          case yff19 => (intro w' hSw; (try dsimp only at hSw); go_simp; try with_reducible rfl)
          (try simp only [Act.put, List.getElem_toArray, List.getElem_cons_zero, List.getElem_cons_succ, List.setIfInBounds_toArray, List.set_cons_zero, List.set_cons_succ])
          refine wpDet_take ?vff20 (Two.stays _ _ _ _ _ _ _) (h0 _ _ _) (i := 20) rfl (by kernel_rfl) (by kernel_rfl) (by kernel_rfl) (fun _ _ _ h => h) (Gives.value (by rfl) ?yff20) ?rff20
          case yff20 => (intro w' hSw; (try dsimp only at hSw); go_simp; try with_reducible rfl)
          (try simp only [Act.put, List.getElem_toArray, List.getElem_cons_zero, List.getElem_cons_succ, List.setIfInBounds_toArray, List.set_cons_zero, List.set_cons_succ])
          refine wpDet_take ?vff21 (Two.stays _ _ _ _ _ _ _) (h0 _ _ _) (i := 21) rfl (by kernel_rfl) (by kernel_rfl) (by kernel_rfl) (fun _ _ _ h => h) (Gives.value (by rfl) ?yff21) ?rff21
          case yff21 => (intro w' hSw; obtain ⟨c1, c2⟩ := hSw; (try dsimp only at hSw); go_simp; try with_reducible rfl)
          (try simp only [Act.put, List.getElem_toArray, List.getElem_cons_zero, List.getElem_cons_succ, List.setIfInBounds_toArray, List.set_cons_zero, List.set_cons_succ])
          refine wpDet_take ?vff22 (Two.stays _ _ _ _ _ _ _) (h0 _ _ _) (i := 22) rfl (by kernel_rfl) (by kernel_rfl) (by kernel_rfl) (fun _ _ _ h => h) (Gives.value (by rfl) ?yff22) ?rff22
          case yff22 => (intro w' hSw; (try dsimp only at hSw); go_simp; try with_reducible rfl)
          (try simp only [Act.put, List.getElem_toArray, List.getElem_cons_zero, List.getElem_cons_succ, List.setIfInBounds_toArray, List.set_cons_zero, List.set_cons_succ])
          refine wpDet_take undef (Two.stays _ _ _ _ _ _ _) (h0 _ _ _) (i := 23) rfl (by kernel_rfl) (by kernel_rfl) (by kernel_rfl) (fun _ _ _ h => h) (Gives.not (by rfl)) ?_
          (try simp only [Act.put, List.getElem_toArray, List.getElem_cons_zero, List.getElem_cons_succ, List.setIfInBounds_toArray, List.set_cons_zero, List.set_cons_succ])
          refine wpDet_take undef (Two.stays _ _ _ _ _ _ _) (h0 _ _ _) (i := 24) rfl (by kernel_rfl) (by kernel_rfl) (by kernel_rfl) (fun _ _ _ h => h) (Gives.not (by rfl)) ?_
          (try simp only [Act.put, List.getElem_toArray, List.getElem_cons_zero, List.getElem_cons_succ, List.setIfInBounds_toArray, List.set_cons_zero, List.set_cons_succ])
          refine wpDet_take undef (Two.stays _ _ _ _ _ _ _) (h0 _ _ _) (i := 25) rfl (by kernel_rfl) (by kernel_rfl) (by kernel_rfl) (fun _ _ _ h => h) (Gives.not (by rfl)) ?_
          (try simp only [Act.put, List.getElem_toArray, List.getElem_cons_zero, List.getElem_cons_succ, List.setIfInBounds_toArray, List.set_cons_zero, List.set_cons_succ])
          refine wpDet_take undef (Two.stays _ _ _ _ _ _ _) (h0 _ _ _) (i := 26) rfl (by kernel_rfl) (by kernel_rfl) (by kernel_rfl) (fun _ _ _ h => h) (Gives.not (by rfl)) ?_
          (try simp only [Act.put, List.getElem_toArray, List.getElem_cons_zero, List.getElem_cons_succ, List.setIfInBounds_toArray, List.set_cons_zero, List.set_cons_succ])
          refine wpDet_take ?vff27 (Two.stays _ _ _ _ _ _ _) (h0 _ _ _) (i := 27) rfl (by kernel_rfl) (by kernel_rfl) (by kernel_rfl) (fun _ _ _ h => h) (Gives.value (by rfl) ?yff27) ?rff27
          case yff27 => (intro w' hSw; (try dsimp only at hSw); go_simp; try with_reducible rfl)
          (try simp only [Act.put, List.getElem_toArray, List.getElem_cons_zero, List.getElem_cons_succ, List.setIfInBounds_toArray, List.set_cons_zero, List.set_cons_succ])
          refine wpDet_take ?vff28 (Two.stays _ _ _ _ _ _ _) (h0 _ _ _) (i := 28) rfl (by kernel_rfl) (by kernel_rfl) (by kernel_rfl) (fun _ _ _ h => h) (Gives.value (by rfl) ?yff28) ?rff28
          case yff28 => (intro w' hSw; (try dsimp only at hSw); go_simp; try with_reducible rfl)
          (try simp only [Act.put, List.getElem_toArray, List.getElem_cons_zero, List.getElem_cons_succ, List.setIfInBounds_toArray, List.set_cons_zero, List.set_cons_succ])
          refine wpDet_ready (rs := [29]) (by kernel_rfl) (by simp) (AllDet.cons rfl (fun W hW K hK => ?_) AllDet.nil)
          have hc1 := hW.o.cell (i := k) (by rw [hlo]; exact h64)
          have hf1 := hW.o.free k
          go_simp
          refine hK.out _ _ _ (Two.stays _ _ _ _ _ _ _) (h0 _ _ _) (hW.setO k false) ?_
          clear hK K hc1 hf1 hW
          (try simp only [Act.put, List.getElem_toArray, List.getElem_cons_zero, List.getElem_cons_succ, List.setIfInBounds_toArray, List.set_cons_zero, List.set_cons_succ])
          refine wpDet_take ?vff30 (Two.stays _ _ _ _ _ _ _) (h0 _ _ _) (i := 30) rfl (by kernel_rfl) (by kernel_rfl) (by kernel_rfl) (fun _ _ _ h => h) (Gives.value (by rfl) ?yff30) ?rff30
          case yff30 => (intro w' hSw; (try dsimp only at hSw); go_simp; try with_reducible rfl)
          (try simp only [Act.put, List.getElem_toArray, List.getElem_cons_zero, List.getElem_cons_succ, List.setIfInBounds_toArray, List.set_cons_zero, List.set_cons_succ])
          refine wpDet_ready (rs := [31]) (by kernel_rfl) (by simp) (AllDet.cons rfl (fun W hW K hK => ?_) AllDet.nil)
          have hc1 := hW.a.cell (i := k) (by rw [hla]; exact h64)
          have hf1 := hW.a.free k
          go_simp
          refine hK.out _ _ _ (Two.stays _ _ _ _ _ _ _) (h0 _ _ _) (hW.setA k false) ?_
          clear hK K hc1 hf1 hW
          (try simp only [Act.put, List.getElem_toArray, List.getElem_cons_zero, List.getElem_cons_succ, List.setIfInBounds_toArray, List.set_cons_zero, List.set_cons_succ])
          refine wpDet_take ?vff32 (Two.stays _ _ _ _ _ _ _) (h0 _ _ _) (i := 32) rfl (by kernel_rfl) (by kernel_rfl) (by kernel_rfl) (fun _ _ _ h => h) (Gives.value (by rfl) ?yff32) ?rff32
          case yff32 => (intro w' hSw; (try dsimp only at hSw); go_simp; try with_reducible rfl)
          (try simp only [Act.put, List.getElem_toArray, List.getElem_cons_zero, List.getElem_cons_succ, List.setIfInBounds_toArray, List.set_cons_zero, List.set_cons_succ])
          refine wpDet_ready (rs := [33]) (by kernel_rfl) (by simp) (AllDet.cons rfl (fun W hW K hK => ?_) AllDet.nil)
          have hc1 := hW.c.cell (i := k) (by rw [hlc]; exact h64)
          have hf1 := hW.c.free k
          go_simp
          refine hK.out _ _ _ (Two.stays _ _ _ _ _ _ _) (h0 _ _ _) (hW.setC k false) ?_
          clear hK K hc1 hf1 hW
          (try simp only [Act.put, List.getElem_toArray, List.getElem_cons_zero, List.getElem_cons_succ, List.setIfInBounds_toArray, List.set_cons_zero, List.set_cons_succ])
          refine wpDet_done (by kernel_rfl) (fun W hW => ?_) _
          rw [show O.set k false = upL (orB x y) (k + 1) from HO.out, show A.set k false = upL (andB x y) (k + 1) from HA.out, show C.set k false = upL (butB x y) (k + 1) from HC.out] at hW
          have hc2 : W.cell? ⟨G + 1 + 1 + 1, k, none⟩ = some (.bool false) := by rw [hW.a.cell (i := k) (by rw [hlo2]; exact h64)]; exact congrArg (fun z => some (Value.bool z)) HG.out
          clear h0 hS
          go_wp2_with fail
          go_roundw
          case rel => exact ⟨k + 1, by omega, by go_num, by rw [Hcnt.out]; rfl, hW⟩
          case measure => simp [intOf]; omega
        · go_wp2_with fail
          refine wp_region_det (fun W => W.cell? ⟨G, k, none⟩ = some (.bool false) ∧ W.cell? ⟨G + 1, k, none⟩ = some (.bool true)) (Two w G (bitL x) (bitL y) O A C) (by kernel_rfl) hS.drew ?_
          refine wpDet_take ?vft0 (Two.stays _ _ _ _ _ _ _) (h0 _ _ _) (i := 0) rfl (by kernel_rfl) (by kernel_rfl) (by kernel_rfl) (fun _ _ _ h => h) (Gives.value (by rfl) ?yft0) ?rft0
          case yft0 => (intro w' hSw; (try dsimp only at hSw); go_simp; try with_reducible rfl)
          (try simp only [Act.put, List.getElem_toArray, List.getElem_cons_zero, List.getElem_cons_succ, List.setIfInBounds_toArray, List.set_cons_zero, List.set_cons_succ])
          refine wpDet_take ?vft1 (Two.stays _ _ _ _ _ _ _) (h0 _ _ _) (i := 1) rfl (by kernel_rfl) (by kernel_rfl) (by kernel_rfl) (fun _ _ _ h => h) (Gives.value (by rfl) ?yft1) ?rft1
          case yft1 => (intro w' hSw; (try dsimp only at hSw); go_simp; try with_reducible rfl)
          (try simp only [Act.put, List.getElem_toArray, List.getElem_cons_zero, List.getElem_cons_succ, List.setIfInBounds_toArray, List.set_cons_zero, List.set_cons_succ])
          refine wpDet_take ?vft2 (Two.stays _ _ _ _ _ _ _) (h0 _ _ _) (i := 2) rfl (by kernel_rfl) (by kernel_rfl) (by kernel_rfl) (fun _ _ _ h => h) (Gives.value (by rfl) ?yft2) ?rft2
          case yft2 => (intro w' hSw; (try dsimp only at hSw); go_simp; try with_reducible rfl)
          (try simp only [Act.put, List.getElem_toArray, List.getElem_cons_zero, List.getElem_cons_succ, List.setIfInBounds_toArray, List.set_cons_zero, List.set_cons_succ])
          refine wpDet_take ?vft3 (Two.stays _ _ _ _ _ _ _) (h0 _ _ _) (i := 3) rfl (by kernel_rfl) (by kernel_rfl) (by kernel_rfl) (fun _ _ _ h => h) (Gives.value (by rfl) ?yft3) ?rft3
          case yft3 => (intro w' hSw; (try dsimp only at hSw); go_simp; try with_reducible rfl)
          (try simp only [Act.put, List.getElem_toArray, List.getElem_cons_zero, List.getElem_cons_succ, List.setIfInBounds_toArray, List.set_cons_zero, List.set_cons_succ])
          refine wpDet_take ?vft4 (Two.stays _ _ _ _ _ _ _) (h0 _ _ _) (i := 4) rfl (by kernel_rfl) (by kernel_rfl) (by kernel_rfl) (fun _ _ _ h => h) (Gives.value (by rfl) ?yft4) ?rft4
          case yft4 => (intro w' hSw; (try dsimp only at hSw); go_simp; try with_reducible rfl)
          (try simp only [Act.put, List.getElem_toArray, List.getElem_cons_zero, List.getElem_cons_succ, List.setIfInBounds_toArray, List.set_cons_zero, List.set_cons_succ])
          refine wpDet_take ?vft5 (Two.stays _ _ _ _ _ _ _) (h0 _ _ _) (i := 5) rfl (by kernel_rfl) (by kernel_rfl) (by kernel_rfl) (fun _ _ _ h => h) (Gives.value (by rfl) ?yft5) ?rft5
          case yft5 => (intro w' hSw; obtain ⟨c1, c2⟩ := hSw; (try dsimp only at hSw); go_simp; try with_reducible rfl)
          (try simp only [Act.put, List.getElem_toArray, List.getElem_cons_zero, List.getElem_cons_succ, List.setIfInBounds_toArray, List.set_cons_zero, List.set_cons_succ])
          refine wpDet_take ?vft6 (Two.stays _ _ _ _ _ _ _) (h0 _ _ _) (i := 6) rfl (by kernel_rfl) (by kernel_rfl) (by kernel_rfl) (fun _ _ _ h => h) (Gives.value (by rfl) ?yft6) ?rft6
          case yft6 => (intro w' hSw; (try dsimp only at hSw); go_simp; try with_reducible rfl)
          (try simp only [Act.put, List.getElem_toArray, List.getElem_cons_zero, List.getElem_cons_succ, List.setIfInBounds_toArray, List.set_cons_zero, List.set_cons_succ])
          refine wpDet_take ?vft7 (Two.stays _ _ _ _ _ _ _) (h0 _ _ _) (i := 7) rfl (by kernel_rfl) (by kernel_rfl) (by kernel_rfl) (fun _ _ _ h => h) (Gives.value (by rfl) ?yft7) ?rft7
          case yft7 => (intro w' hSw; (try dsimp only at hSw); go_simp; try with_reducible rfl)
          (try simp only [Act.put, List.getElem_toArray, List.getElem_cons_zero, List.getElem_cons_succ, List.setIfInBounds_toArray, List.set_cons_zero, List.set_cons_succ])
          refine wpDet_take ?vft8 (Two.stays _ _ _ _ _ _ _) (h0 _ _ _) (i := 8) rfl (by kernel_rfl) (by kernel_rfl) (by kernel_rfl) (fun _ _ _ h => h) (Gives.value (by rfl) ?yft8) ?rft8
          case yft8 => (intro w' hSw; (try dsimp only at hSw); go_simp; try with_reducible rfl)
          (try simp only [Act.put, List.getElem_toArray, List.getElem_cons_zero, List.getElem_cons_succ, List.setIfInBounds_toArray, List.set_cons_zero, List.set_cons_succ])
          refine wpDet_take ?vft9 (Two.stays _ _ _ _ _ _ _) (h0 _ _ _) (i := 9) rfl (by kernel_rfl) (by kernel_rfl) (by kernel_rfl) (fun _ _ _ h => h) (Gives.value (by rfl) ?yft9) ?rft9
          case yft9 => (intro w' hSw; obtain ⟨c1, c2⟩ := hSw; (try dsimp only at hSw); go_simp; try with_reducible rfl)
          (try simp only [Act.put, List.getElem_toArray, List.getElem_cons_zero, List.getElem_cons_succ, List.setIfInBounds_toArray, List.set_cons_zero, List.set_cons_succ])
          refine wpDet_take ?vft10 (Two.stays _ _ _ _ _ _ _) (h0 _ _ _) (i := 10) rfl (by kernel_rfl) (by kernel_rfl) (by kernel_rfl) (fun _ _ _ h => h) (Gives.value (by rfl) ?yft10) ?rft10
          case yft10 => (intro w' hSw; (try dsimp only at hSw); go_simp; try with_reducible rfl)
          (try simp only [Act.put, List.getElem_toArray, List.getElem_cons_zero, List.getElem_cons_succ, List.setIfInBounds_toArray, List.set_cons_zero, List.set_cons_succ])
          refine wpDet_take ?vft11 (Two.stays _ _ _ _ _ _ _) (h0 _ _ _) (i := 11) rfl (by kernel_rfl) (by kernel_rfl) (by kernel_rfl) (fun _ _ _ h => h) (Gives.value (by rfl) ?yft11) ?rft11
          case yft11 => (intro w' hSw; (try dsimp only at hSw); go_simp; try with_reducible rfl)
          (try simp only [Act.put, List.getElem_toArray, List.getElem_cons_zero, List.getElem_cons_succ, List.setIfInBounds_toArray, List.set_cons_zero, List.set_cons_succ])
          refine wpDet_take ?vft12 (Two.stays _ _ _ _ _ _ _) (h0 _ _ _) (i := 12) rfl (by kernel_rfl) (by kernel_rfl) (by kernel_rfl) (fun _ _ _ h => h) (Gives.value (by rfl) ?yft12) ?rft12
          case yft12 => (intro w' hSw; (try dsimp only at hSw); go_simp; try with_reducible rfl)
          (try simp only [Act.put, List.getElem_toArray, List.getElem_cons_zero, List.getElem_cons_succ, List.setIfInBounds_toArray, List.set_cons_zero, List.set_cons_succ])
          refine wpDet_take ?vft13 (Two.stays _ _ _ _ _ _ _) (h0 _ _ _) (i := 13) rfl (by kernel_rfl) (by kernel_rfl) (by kernel_rfl) (fun _ _ _ h => h) (Gives.value (by rfl) ?yft13) ?rft13
          case yft13 => (intro w' hSw; obtain ⟨c1, c2⟩ := hSw; (try dsimp only at hSw); go_simp; try with_reducible rfl)
          (try simp only [Act.put, List.getElem_toArray, List.getElem_cons_zero, List.getElem_cons_succ, List.setIfInBounds_toArray, List.set_cons_zero, List.set_cons_succ])
          refine wpDet_take ?vft14 (Two.stays _ _ _ _ _ _ _) (h0 _ _ _) (i := 14) rfl (by kernel_rfl) (by kernel_rfl) (by kernel_rfl) (fun _ _ _ h => h) (Gives.value (by rfl) ?yft14) ?rft14
          case yft14 => (intro w' hSw; (try dsimp only at hSw); go_simp; try with_reducible rfl)
          (try simp only [Act.put, List.getElem_toArray, List.getElem_cons_zero, List.getElem_cons_succ, List.setIfInBounds_toArray, List.set_cons_zero, List.set_cons_succ])
          refine wpDet_take undef (Two.stays _ _ _ _ _ _ _) (h0 _ _ _) (i := 15) rfl (by kernel_rfl) (by kernel_rfl) (by kernel_rfl) (fun _ _ _ h => h) (Gives.not (by rfl)) ?_
          (try simp only [Act.put, List.getElem_toArray, List.getElem_cons_zero, List.getElem_cons_succ, List.setIfInBounds_toArray, List.set_cons_zero, List.set_cons_succ])
          refine wpDet_take undef (Two.stays _ _ _ _ _ _ _) (h0 _ _ _) (i := 16) rfl (by kernel_rfl) (by kernel_rfl) (by kernel_rfl) (fun _ _ _ h => h) (Gives.not (by rfl)) ?_
          (try simp only [Act.put, List.getElem_toArray, List.getElem_cons_zero, List.getElem_cons_succ, List.setIfInBounds_toArray, List.set_cons_zero, List.set_cons_succ])
          refine wpDet_take undef (Two.stays _ _ _ _ _ _ _) (h0 _ _ _) (i := 17) rfl (by kernel_rfl) (by kernel_rfl) (by kernel_rfl) (fun _ _ _ h => h) (Gives.not (by rfl)) ?_
          (try simp only [Act.put, List.getElem_toArray, List.getElem_cons_zero, List.getElem_cons_succ, List.setIfInBounds_toArray, List.set_cons_zero, List.set_cons_succ])
          refine wpDet_take ?vft18 (Two.stays _ _ _ _ _ _ _) (h0 _ _ _) (i := 18) rfl (by kernel_rfl) (by kernel_rfl) (by kernel_rfl) (fun _ _ _ h => h) (Gives.value (by rfl) ?yft18) ?rft18
          case yft18 => (intro w' hSw; (try dsimp only at hSw); go_simp; try with_reducible rfl)
          (try simp only [Act.put, List.getElem_toArray, List.getElem_cons_zero, List.getElem_cons_succ, List.setIfInBounds_toArray, List.set_cons_zero, List.set_cons_succ])
          refine wpDet_take ?vft19 (Two.stays _ _ _ _ _ _ _) (h0 _ _ _) (i := 19) rfl (by kernel_rfl) (by kernel_rfl) (by kernel_rfl) (fun _ _ _ h => h) (Gives.value (by rfl) ?yft19) ?rft19
          case yft19 => (intro w' hSw; (try dsimp only at hSw); go_simp; try with_reducible rfl)
          (try simp only [Act.put, List.getElem_toArray, List.getElem_cons_zero, List.getElem_cons_succ, List.setIfInBounds_toArray, List.set_cons_zero, List.set_cons_succ])
          refine wpDet_take ?vft20 (Two.stays _ _ _ _ _ _ _) (h0 _ _ _) (i := 20) rfl (by kernel_rfl) (by kernel_rfl) (by kernel_rfl) (fun _ _ _ h => h) (Gives.value (by rfl) ?yft20) ?rft20
          case yft20 => (intro w' hSw; (try dsimp only at hSw); go_simp; try with_reducible rfl)
          (try simp only [Act.put, List.getElem_toArray, List.getElem_cons_zero, List.getElem_cons_succ, List.setIfInBounds_toArray, List.set_cons_zero, List.set_cons_succ])
          refine wpDet_take ?vft21 (Two.stays _ _ _ _ _ _ _) (h0 _ _ _) (i := 21) rfl (by kernel_rfl) (by kernel_rfl) (by kernel_rfl) (fun _ _ _ h => h) (Gives.value (by rfl) ?yft21) ?rft21
          case yft21 => (intro w' hSw; obtain ⟨c1, c2⟩ := hSw; (try dsimp only at hSw); go_simp; try with_reducible rfl)
          (try simp only [Act.put, List.getElem_toArray, List.getElem_cons_zero, List.getElem_cons_succ, List.setIfInBounds_toArray, List.set_cons_zero, List.set_cons_succ])
          refine wpDet_take ?vft22 (Two.stays _ _ _ _ _ _ _) (h0 _ _ _) (i := 22) rfl (by kernel_rfl) (by kernel_rfl) (by kernel_rfl) (fun _ _ _ h => h) (Gives.value (by rfl) ?yft22) ?rft22
          case yft22 => (intro w' hSw; (try dsimp only at hSw); go_simp; try with_reducible rfl)
          (try simp only [Act.put, List.getElem_toArray, List.getElem_cons_zero, List.getElem_cons_succ, List.setIfInBounds_toArray, List.set_cons_zero, List.set_cons_succ])
          refine wpDet_take undef (Two.stays _ _ _ _ _ _ _) (h0 _ _ _) (i := 23) rfl (by kernel_rfl) (by kernel_rfl) (by kernel_rfl) (fun _ _ _ h => h) (Gives.not (by rfl)) ?_
          (try simp only [Act.put, List.getElem_toArray, List.getElem_cons_zero, List.getElem_cons_succ, List.setIfInBounds_toArray, List.set_cons_zero, List.set_cons_succ])
          refine wpDet_take undef (Two.stays _ _ _ _ _ _ _) (h0 _ _ _) (i := 24) rfl (by kernel_rfl) (by kernel_rfl) (by kernel_rfl) (fun _ _ _ h => h) (Gives.not (by rfl)) ?_
          (try simp only [Act.put, List.getElem_toArray, List.getElem_cons_zero, List.getElem_cons_succ, List.setIfInBounds_toArray, List.set_cons_zero, List.set_cons_succ])
          refine wpDet_take undef (Two.stays _ _ _ _ _ _ _) (h0 _ _ _) (i := 25) rfl (by kernel_rfl) (by kernel_rfl) (by kernel_rfl) (fun _ _ _ h => h) (Gives.not (by rfl)) ?_
          (try simp only [Act.put, List.getElem_toArray, List.getElem_cons_zero, List.getElem_cons_succ, List.setIfInBounds_toArray, List.set_cons_zero, List.set_cons_succ])
          refine wpDet_take undef (Two.stays _ _ _ _ _ _ _) (h0 _ _ _) (i := 26) rfl (by kernel_rfl) (by kernel_rfl) (by kernel_rfl) (fun _ _ _ h => h) (Gives.not (by rfl)) ?_
          (try simp only [Act.put, List.getElem_toArray, List.getElem_cons_zero, List.getElem_cons_succ, List.setIfInBounds_toArray, List.set_cons_zero, List.set_cons_succ])
          refine wpDet_take ?vft27 (Two.stays _ _ _ _ _ _ _) (h0 _ _ _) (i := 27) rfl (by kernel_rfl) (by kernel_rfl) (by kernel_rfl) (fun _ _ _ h => h) (Gives.value (by rfl) ?yft27) ?rft27
          case yft27 => (intro w' hSw; (try dsimp only at hSw); go_simp; try with_reducible rfl)
          (try simp only [Act.put, List.getElem_toArray, List.getElem_cons_zero, List.getElem_cons_succ, List.setIfInBounds_toArray, List.set_cons_zero, List.set_cons_succ])
          refine wpDet_take ?vft28 (Two.stays _ _ _ _ _ _ _) (h0 _ _ _) (i := 28) rfl (by kernel_rfl) (by kernel_rfl) (by kernel_rfl) (fun _ _ _ h => h) (Gives.value (by rfl) ?yft28) ?rft28
          case yft28 => (intro w' hSw; (try dsimp only at hSw); go_simp; try with_reducible rfl)
          (try simp only [Act.put, List.getElem_toArray, List.getElem_cons_zero, List.getElem_cons_succ, List.setIfInBounds_toArray, List.set_cons_zero, List.set_cons_succ])
          refine wpDet_ready (rs := [29]) (by kernel_rfl) (by simp) (AllDet.cons rfl (fun W hW K hK => ?_) AllDet.nil)
          have hc1 := hW.o.cell (i := k) (by rw [hlo]; exact h64)
          have hf1 := hW.o.free k
          go_simp
          refine hK.out _ _ _ (Two.stays _ _ _ _ _ _ _) (h0 _ _ _) (hW.setO k true) ?_
          clear hK K hc1 hf1 hW
          (try simp only [Act.put, List.getElem_toArray, List.getElem_cons_zero, List.getElem_cons_succ, List.setIfInBounds_toArray, List.set_cons_zero, List.set_cons_succ])
          refine wpDet_take ?vft30 (Two.stays _ _ _ _ _ _ _) (h0 _ _ _) (i := 30) rfl (by kernel_rfl) (by kernel_rfl) (by kernel_rfl) (fun _ _ _ h => h) (Gives.value (by rfl) ?yft30) ?rft30
          case yft30 => (intro w' hSw; (try dsimp only at hSw); go_simp; try with_reducible rfl)
          (try simp only [Act.put, List.getElem_toArray, List.getElem_cons_zero, List.getElem_cons_succ, List.setIfInBounds_toArray, List.set_cons_zero, List.set_cons_succ])
          refine wpDet_ready (rs := [31]) (by kernel_rfl) (by simp) (AllDet.cons rfl (fun W hW K hK => ?_) AllDet.nil)
          have hc1 := hW.a.cell (i := k) (by rw [hla]; exact h64)
          have hf1 := hW.a.free k
          go_simp
          refine hK.out _ _ _ (Two.stays _ _ _ _ _ _ _) (h0 _ _ _) (hW.setA k false) ?_
          clear hK K hc1 hf1 hW
          (try simp only [Act.put, List.getElem_toArray, List.getElem_cons_zero, List.getElem_cons_succ, List.setIfInBounds_toArray, List.set_cons_zero, List.set_cons_succ])
          refine wpDet_take ?vft32 (Two.stays _ _ _ _ _ _ _) (h0 _ _ _) (i := 32) rfl (by kernel_rfl) (by kernel_rfl) (by kernel_rfl) (fun _ _ _ h => h) (Gives.value (by rfl) ?yft32) ?rft32
          case yft32 => (intro w' hSw; (try dsimp only at hSw); go_simp; try with_reducible rfl)
          (try simp only [Act.put, List.getElem_toArray, List.getElem_cons_zero, List.getElem_cons_succ, List.setIfInBounds_toArray, List.set_cons_zero, List.set_cons_succ])
          refine wpDet_ready (rs := [33]) (by kernel_rfl) (by simp) (AllDet.cons rfl (fun W hW K hK => ?_) AllDet.nil)
          have hc1 := hW.c.cell (i := k) (by rw [hlc]; exact h64)
          have hf1 := hW.c.free k
          go_simp
          refine hK.out _ _ _ (Two.stays _ _ _ _ _ _ _) (h0 _ _ _) (hW.setC k false) ?_
          clear hK K hc1 hf1 hW
          (try simp only [Act.put, List.getElem_toArray, List.getElem_cons_zero, List.getElem_cons_succ, List.setIfInBounds_toArray, List.set_cons_zero, List.set_cons_succ])
          refine wpDet_done (by kernel_rfl) (fun W hW => ?_) _
          rw [show O.set k true = upL (orB x y) (k + 1) from HO.out, show A.set k false = upL (andB x y) (k + 1) from HA.out, show C.set k false = upL (butB x y) (k + 1) from HC.out] at hW
          have hc2 : W.cell? ⟨G + 1 + 1 + 1, k, none⟩ = some (.bool false) := by rw [hW.a.cell (i := k) (by rw [hlo2]; exact h64)]; exact congrArg (fun z => some (Value.bool z)) HG.out
          clear h0 hS
          go_wp2_with fail
          go_roundw
          case rel => exact ⟨k + 1, by omega, by go_num, by rw [Hcnt.out]; rfl, hW⟩
          case measure => simp [intOf]; omega
      · cases yb
        · go_wp2_with fail
          refine wp_region_det (fun W => W.cell? ⟨G, k, none⟩ = some (.bool true) ∧ W.cell? ⟨G + 1, k, none⟩ = some (.bool false)) (Two w G (bitL x) (bitL y) O A C) (by kernel_rfl) hS.drew ?_
          refine wpDet_take ?vtf0 (Two.stays _ _ _ _ _ _ _) (h0 _ _ _) (i := 0) rfl (by kernel_rfl) (by kernel_rfl) (by kernel_rfl) (fun _ _ _ h => h) (Gives.value (by rfl) ?ytf0) ?rtf0
          case ytf0 => (intro w' hSw; (try dsimp only at hSw); go_simp; try with_reducible rfl)
          (try simp only [Act.put, List.getElem_toArray, List.getElem_cons_zero, List.getElem_cons_succ, List.setIfInBounds_toArray, List.set_cons_zero, List.set_cons_succ])
          refine wpDet_take ?vtf1 (Two.stays _ _ _ _ _ _ _) (h0 _ _ _) (i := 1) rfl (by kernel_rfl) (by kernel_rfl) (by kernel_rfl) (fun _ _ _ h => h) (Gives.value (by rfl) ?ytf1) ?rtf1
          case ytf1 => (intro w' hSw; (try dsimp only at hSw); go_simp; try with_reducible rfl)
          (try simp only [Act.put, List.getElem_toArray, List.getElem_cons_zero, List.getElem_cons_succ, List.setIfInBounds_toArray, List.set_cons_zero, List.set_cons_succ])
          refine wpDet_take ?vtf2 (Two.stays _ _ _ _ _ _ _) (h0 _ _ _) (i := 2) rfl (by kernel_rfl) (by kernel_rfl) (by kernel_rfl) (fun _ _ _ h => h) (Gives.value (by rfl) ?ytf2) ?rtf2
          case ytf2 => (intro w' hSw; (try dsimp only at hSw); go_simp; try with_reducible rfl)
          (try simp only [Act.put, List.getElem_toArray, List.getElem_cons_zero, List.getElem_cons_succ, List.setIfInBounds_toArray, List.set_cons_zero, List.set_cons_succ])
          refine wpDet_take ?vtf3 (Two.stays _ _ _ _ _ _ _) (h0 _ _ _) (i := 3) rfl (by kernel_rfl) (by kernel_rfl) (by kernel_rfl) (fun _ _ _ h => h) (Gives.value (by rfl) ?ytf3) ?rtf3
          case ytf3 => (intro w' hSw; (try dsimp only at hSw); go_simp; try with_reducible rfl)
          (try simp only [Act.put, List.getElem_toArray, List.getElem_cons_zero, List.getElem_cons_succ, List.setIfInBounds_toArray, List.set_cons_zero, List.set_cons_succ])
          refine wpDet_take ?vtf4 (Two.stays _ _ _ _ _ _ _) (h0 _ _ _) (i := 4) rfl (by kernel_rfl) (by kernel_rfl) (by kernel_rfl) (fun _ _ _ h => h) (Gives.value (by rfl) ?ytf4) ?rtf4
          case ytf4 => (intro w' hSw; (try dsimp only at hSw); go_simp; try with_reducible rfl)
          (try simp only [Act.put, List.getElem_toArray, List.getElem_cons_zero, List.getElem_cons_succ, List.setIfInBounds_toArray, List.set_cons_zero, List.set_cons_succ])
          refine wpDet_take ?vtf5 (Two.stays _ _ _ _ _ _ _) (h0 _ _ _) (i := 5) rfl (by kernel_rfl) (by kernel_rfl) (by kernel_rfl) (fun _ _ _ h => h) (Gives.value (by rfl) ?ytf5) ?rtf5
          case ytf5 => (intro w' hSw; obtain ⟨c1, c2⟩ := hSw; (try dsimp only at hSw); go_simp; try with_reducible rfl)
          (try simp only [Act.put, List.getElem_toArray, List.getElem_cons_zero, List.getElem_cons_succ, List.setIfInBounds_toArray, List.set_cons_zero, List.set_cons_succ])
          refine wpDet_take ?vtf6 (Two.stays _ _ _ _ _ _ _) (h0 _ _ _) (i := 6) rfl (by kernel_rfl) (by kernel_rfl) (by kernel_rfl) (fun _ _ _ h => h) (Gives.value (by rfl) ?ytf6) ?rtf6
          case ytf6 => (intro w' hSw; (try dsimp only at hSw); go_simp; try with_reducible rfl)
          (try simp only [Act.put, List.getElem_toArray, List.getElem_cons_zero, List.getElem_cons_succ, List.setIfInBounds_toArray, List.set_cons_zero, List.set_cons_succ])
          refine wpDet_take undef (Two.stays _ _ _ _ _ _ _) (h0 _ _ _) (i := 7) rfl (by kernel_rfl) (by kernel_rfl) (by kernel_rfl) (fun _ _ _ h => h) (Gives.not (by rfl)) ?_
          (try simp only [Act.put, List.getElem_toArray, List.getElem_cons_zero, List.getElem_cons_succ, List.setIfInBounds_toArray, List.set_cons_zero, List.set_cons_succ])
          refine wpDet_take undef (Two.stays _ _ _ _ _ _ _) (h0 _ _ _) (i := 8) rfl (by kernel_rfl) (by kernel_rfl) (by kernel_rfl) (fun _ _ _ h => h) (Gives.not (by rfl)) ?_
          (try simp only [Act.put, List.getElem_toArray, List.getElem_cons_zero, List.getElem_cons_succ, List.setIfInBounds_toArray, List.set_cons_zero, List.set_cons_succ])
          refine wpDet_take undef (Two.stays _ _ _ _ _ _ _) (h0 _ _ _) (i := 9) rfl (by kernel_rfl) (by kernel_rfl) (by kernel_rfl) (fun _ _ _ h => h) (Gives.not (by rfl)) ?_
          (try simp only [Act.put, List.getElem_toArray, List.getElem_cons_zero, List.getElem_cons_succ, List.setIfInBounds_toArray, List.set_cons_zero, List.set_cons_succ])
          refine wpDet_take ?vtf10 (Two.stays _ _ _ _ _ _ _) (h0 _ _ _) (i := 10) rfl (by kernel_rfl) (by kernel_rfl) (by kernel_rfl) (fun _ _ _ h => h) (Gives.value (by rfl) ?ytf10) ?rtf10
          case ytf10 => (intro w' hSw; (try dsimp only at hSw); go_simp; try with_reducible rfl)
          (try simp only [Act.put, List.getElem_toArray, List.getElem_cons_zero, List.getElem_cons_succ, List.setIfInBounds_toArray, List.set_cons_zero, List.set_cons_succ])
          refine wpDet_take ?vtf11 (Two.stays _ _ _ _ _ _ _) (h0 _ _ _) (i := 11) rfl (by kernel_rfl) (by kernel_rfl) (by kernel_rfl) (fun _ _ _ h => h) (Gives.value (by rfl) ?ytf11) ?rtf11
          case ytf11 => (intro w' hSw; (try dsimp only at hSw); go_simp; try with_reducible rfl)
          (try simp only [Act.put, List.getElem_toArray, List.getElem_cons_zero, List.getElem_cons_succ, List.setIfInBounds_toArray, List.set_cons_zero, List.set_cons_succ])
          refine wpDet_take ?vtf12 (Two.stays _ _ _ _ _ _ _) (h0 _ _ _) (i := 12) rfl (by kernel_rfl) (by kernel_rfl) (by kernel_rfl) (fun _ _ _ h => h) (Gives.value (by rfl) ?ytf12) ?rtf12
          case ytf12 => (intro w' hSw; (try dsimp only at hSw); go_simp; try with_reducible rfl)
          (try simp only [Act.put, List.getElem_toArray, List.getElem_cons_zero, List.getElem_cons_succ, List.setIfInBounds_toArray, List.set_cons_zero, List.set_cons_succ])
          refine wpDet_take ?vtf13 (Two.stays _ _ _ _ _ _ _) (h0 _ _ _) (i := 13) rfl (by kernel_rfl) (by kernel_rfl) (by kernel_rfl) (fun _ _ _ h => h) (Gives.value (by rfl) ?ytf13) ?rtf13
          case ytf13 => (intro w' hSw; obtain ⟨c1, c2⟩ := hSw; (try dsimp only at hSw); go_simp; try with_reducible rfl)
          (try simp only [Act.put, List.getElem_toArray, List.getElem_cons_zero, List.getElem_cons_succ, List.setIfInBounds_toArray, List.set_cons_zero, List.set_cons_succ])
          refine wpDet_take ?vtf14 (Two.stays _ _ _ _ _ _ _) (h0 _ _ _) (i := 14) rfl (by kernel_rfl) (by kernel_rfl) (by kernel_rfl) (fun _ _ _ h => h) (Gives.value (by rfl) ?ytf14) ?rtf14
          case ytf14 => (intro w' hSw; (try dsimp only at hSw); go_simp; try with_reducible rfl)
          (try simp only [Act.put, List.getElem_toArray, List.getElem_cons_zero, List.getElem_cons_succ, List.setIfInBounds_toArray, List.set_cons_zero, List.set_cons_succ])
          refine wpDet_take ?vtf15 (Two.stays _ _ _ _ _ _ _) (h0 _ _ _) (i := 15) rfl (by kernel_rfl) (by kernel_rfl) (by kernel_rfl) (fun _ _ _ h => h) (Gives.value (by rfl) ?ytf15) ?rtf15
          case ytf15 => (intro w' hSw; (try dsimp only at hSw); go_simp; try with_reducible rfl)
          (try simp only [Act.put, List.getElem_toArray, List.getElem_cons_zero, List.getElem_cons_succ, List.setIfInBounds_toArray, List.set_cons_zero, List.set_cons_succ])
          refine wpDet_take ?vtf16 (Two.stays _ _ _ _ _ _ _) (h0 _ _ _) (i := 16) rfl (by kernel_rfl) (by kernel_rfl) (by kernel_rfl) (fun _ _ _ h => h) (Gives.value (by rfl) ?ytf16) ?rtf16
          case ytf16 => (intro w' hSw; (try dsimp only at hSw); go_simp; try with_reducible rfl)
          (try simp only [Act.put, List.getElem_toArray, List.getElem_cons_zero, List.getElem_cons_succ, List.setIfInBounds_toArray, List.set_cons_zero, List.set_cons_succ])
          refine wpDet_take ?vtf17 (Two.stays _ _ _ _ _ _ _) (h0 _ _ _) (i := 17) rfl (by kernel_rfl) (by kernel_rfl) (by kernel_rfl) (fun _ _ _ h => h) (Gives.value (by rfl) ?ytf17) ?rtf17
          case ytf17 => (intro w' hSw; obtain ⟨c1, c2⟩ := hSw; (try dsimp only at hSw); go_simp; try with_reducible rfl)
          (try simp only [Act.put, List.getElem_toArray, List.getElem_cons_zero, List.getElem_cons_succ, List.setIfInBounds_toArray, List.set_cons_zero, List.set_cons_succ])
          refine wpDet_take ?vtf18 (Two.stays _ _ _ _ _ _ _) (h0 _ _ _) (i := 18) rfl (by kernel_rfl) (by kernel_rfl) (by kernel_rfl) (fun _ _ _ h => h) (Gives.value (by rfl) ?ytf18) ?rtf18
          case ytf18 => (intro w' hSw; (try dsimp only at hSw); go_simp; try with_reducible rfl)
          (try simp only [Act.put, List.getElem_toArray, List.getElem_cons_zero, List.getElem_cons_succ, List.setIfInBounds_toArray, List.set_cons_zero, List.set_cons_succ])
          refine wpDet_take ?vtf19 (Two.stays _ _ _ _ _ _ _) (h0 _ _ _) (i := 19) rfl (by kernel_rfl) (by kernel_rfl) (by kernel_rfl) (fun _ _ _ h => h) (Gives.value (by rfl) ?ytf19) ?rtf19
          case ytf19 => (intro w' hSw; (try dsimp only at hSw); go_simp; try with_reducible rfl)
          (try simp only [Act.put, List.getElem_toArray, List.getElem_cons_zero, List.getElem_cons_succ, List.setIfInBounds_toArray, List.set_cons_zero, List.set_cons_succ])
          refine wpDet_take ?vtf20 (Two.stays _ _ _ _ _ _ _) (h0 _ _ _) (i := 20) rfl (by kernel_rfl) (by kernel_rfl) (by kernel_rfl) (fun _ _ _ h => h) (Gives.value (by rfl) ?ytf20) ?rtf20
          case ytf20 => (intro w' hSw; (try dsimp only at hSw); go_simp; try with_reducible rfl)
          (try simp only [Act.put, List.getElem_toArray, List.getElem_cons_zero, List.getElem_cons_succ, List.setIfInBounds_toArray, List.set_cons_zero, List.set_cons_succ])
          refine wpDet_take ?vtf21 (Two.stays _ _ _ _ _ _ _) (h0 _ _ _) (i := 21) rfl (by kernel_rfl) (by kernel_rfl) (by kernel_rfl) (fun _ _ _ h => h) (Gives.value (by rfl) ?ytf21) ?rtf21
          case ytf21 => (intro w' hSw; obtain ⟨c1, c2⟩ := hSw; (try dsimp only at hSw); go_simp; try with_reducible rfl)
          (try simp only [Act.put, List.getElem_toArray, List.getElem_cons_zero, List.getElem_cons_succ, List.setIfInBounds_toArray, List.set_cons_zero, List.set_cons_succ])
          refine wpDet_take ?vtf22 (Two.stays _ _ _ _ _ _ _) (h0 _ _ _) (i := 22) rfl (by kernel_rfl) (by kernel_rfl) (by kernel_rfl) (fun _ _ _ h => h) (Gives.value (by rfl) ?ytf22) ?rtf22
          case ytf22 => (intro w' hSw; (try dsimp only at hSw); go_simp; try with_reducible rfl)
          (try simp only [Act.put, List.getElem_toArray, List.getElem_cons_zero, List.getElem_cons_succ, List.setIfInBounds_toArray, List.set_cons_zero, List.set_cons_succ])
          refine wpDet_take ?vtf23 (Two.stays _ _ _ _ _ _ _) (h0 _ _ _) (i := 23) rfl (by kernel_rfl) (by kernel_rfl) (by kernel_rfl) (fun _ _ _ h => h) (Gives.value (by rfl) ?ytf23) ?rtf23
          case ytf23 => (intro w' hSw; (try dsimp only at hSw); go_simp; try with_reducible rfl)
          (try simp only [Act.put, List.getElem_toArray, List.getElem_cons_zero, List.getElem_cons_succ, List.setIfInBounds_toArray, List.set_cons_zero, List.set_cons_succ])
          refine wpDet_take ?vtf24 (Two.stays _ _ _ _ _ _ _) (h0 _ _ _) (i := 24) rfl (by kernel_rfl) (by kernel_rfl) (by kernel_rfl) (fun _ _ _ h => h) (Gives.value (by rfl) ?ytf24) ?rtf24
          case ytf24 => (intro w' hSw; (try dsimp only at hSw); go_simp; try with_reducible rfl)
          (try simp only [Act.put, List.getElem_toArray, List.getElem_cons_zero, List.getElem_cons_succ, List.setIfInBounds_toArray, List.set_cons_zero, List.set_cons_succ])
          refine wpDet_take ?vtf25 (Two.stays _ _ _ _ _ _ _) (h0 _ _ _) (i := 25) rfl (by kernel_rfl) (by kernel_rfl) (by kernel_rfl) (fun _ _ _ h => h) (Gives.value (by rfl) ?ytf25) ?rtf25
          case ytf25 => (intro w' hSw; obtain ⟨c1, c2⟩ := hSw; (try dsimp only at hSw); go_simp; try with_reducible rfl)
          (try simp only [Act.put, List.getElem_toArray, List.getElem_cons_zero, List.getElem_cons_succ, List.setIfInBounds_toArray, List.set_cons_zero, List.set_cons_succ])
          refine wpDet_take ?vtf26 (Two.stays _ _ _ _ _ _ _) (h0 _ _ _) (i := 26) rfl (by kernel_rfl) (by kernel_rfl) (by kernel_rfl) (fun _ _ _ h => h) (Gives.value (by rfl) ?ytf26) ?rtf26
          case ytf26 => (intro w' hSw; (try dsimp only at hSw); go_simp; try with_reducible rfl)
          (try simp only [Act.put, List.getElem_toArray, List.getElem_cons_zero, List.getElem_cons_succ, List.setIfInBounds_toArray, List.set_cons_zero, List.set_cons_succ])
          refine wpDet_take ?vtf27 (Two.stays _ _ _ _ _ _ _) (h0 _ _ _) (i := 27) rfl (by kernel_rfl) (by kernel_rfl) (by kernel_rfl) (fun _ _ _ h => h) (Gives.value (by rfl) ?ytf27) ?rtf27
          case ytf27 => (intro w' hSw; (try dsimp only at hSw); go_simp; try with_reducible rfl)
          (try simp only [Act.put, List.getElem_toArray, List.getElem_cons_zero, List.getElem_cons_succ, List.setIfInBounds_toArray, List.set_cons_zero, List.set_cons_succ])
          refine wpDet_take ?vtf28 (Two.stays _ _ _ _ _ _ _) (h0 _ _ _) (i := 28) rfl (by kernel_rfl) (by kernel_rfl) (by kernel_rfl) (fun _ _ _ h => h) (Gives.value (by rfl) ?ytf28) ?rtf28
          case ytf28 => (intro w' hSw; (try dsimp only at hSw); go_simp; try with_reducible rfl)
          (try simp only [Act.put, List.getElem_toArray, List.getElem_cons_zero, List.getElem_cons_succ, List.setIfInBounds_toArray, List.set_cons_zero, List.set_cons_succ])
          refine wpDet_ready (rs := [29]) (by kernel_rfl) (by simp) (AllDet.cons rfl (fun W hW K hK => ?_) AllDet.nil)
          have hc1 := hW.o.cell (i := k) (by rw [hlo]; exact h64)
          have hf1 := hW.o.free k
          go_simp
          refine hK.out _ _ _ (Two.stays _ _ _ _ _ _ _) (h0 _ _ _) (hW.setO k true) ?_
          clear hK K hc1 hf1 hW
          (try simp only [Act.put, List.getElem_toArray, List.getElem_cons_zero, List.getElem_cons_succ, List.setIfInBounds_toArray, List.set_cons_zero, List.set_cons_succ])
          refine wpDet_take ?vtf30 (Two.stays _ _ _ _ _ _ _) (h0 _ _ _) (i := 30) rfl (by kernel_rfl) (by kernel_rfl) (by kernel_rfl) (fun _ _ _ h => h) (Gives.value (by rfl) ?ytf30) ?rtf30
          case ytf30 => (intro w' hSw; (try dsimp only at hSw); go_simp; try with_reducible rfl)
          (try simp only [Act.put, List.getElem_toArray, List.getElem_cons_zero, List.getElem_cons_succ, List.setIfInBounds_toArray, List.set_cons_zero, List.set_cons_succ])
          refine wpDet_ready (rs := [31]) (by kernel_rfl) (by simp) (AllDet.cons rfl (fun W hW K hK => ?_) AllDet.nil)
          have hc1 := hW.a.cell (i := k) (by rw [hla]; exact h64)
          have hf1 := hW.a.free k
          go_simp
          refine hK.out _ _ _ (Two.stays _ _ _ _ _ _ _) (h0 _ _ _) (hW.setA k false) ?_
          clear hK K hc1 hf1 hW
          (try simp only [Act.put, List.getElem_toArray, List.getElem_cons_zero, List.getElem_cons_succ, List.setIfInBounds_toArray, List.set_cons_zero, List.set_cons_succ])
          refine wpDet_take ?vtf32 (Two.stays _ _ _ _ _ _ _) (h0 _ _ _) (i := 32) rfl (by kernel_rfl) (by kernel_rfl) (by kernel_rfl) (fun _ _ _ h => h) (Gives.value (by rfl) ?ytf32) ?rtf32
          case ytf32 => (intro w' hSw; (try dsimp only at hSw); go_simp; try with_reducible rfl)
          (try simp only [Act.put, List.getElem_toArray, List.getElem_cons_zero, List.getElem_cons_succ, List.setIfInBounds_toArray, List.set_cons_zero, List.set_cons_succ])
          refine wpDet_ready (rs := [33]) (by kernel_rfl) (by simp) (AllDet.cons rfl (fun W hW K hK => ?_) AllDet.nil)
          have hc1 := hW.c.cell (i := k) (by rw [hlc]; exact h64)
          have hf1 := hW.c.free k
          go_simp
          refine hK.out _ _ _ (Two.stays _ _ _ _ _ _ _) (h0 _ _ _) (hW.setC k true) ?_
          clear hK K hc1 hf1 hW
          (try simp only [Act.put, List.getElem_toArray, List.getElem_cons_zero, List.getElem_cons_succ, List.setIfInBounds_toArray, List.set_cons_zero, List.set_cons_succ])
          refine wpDet_done (by kernel_rfl) (fun W hW => ?_) _
          rw [show O.set k true = upL (orB x y) (k + 1) from HO.out, show A.set k false = upL (andB x y) (k + 1) from HA.out, show C.set k true = upL (butB x y) (k + 1) from HC.out] at hW
          have hc2 : W.cell? ⟨G + 1 + 1 + 1, k, none⟩ = some (.bool false) := by rw [hW.a.cell (i := k) (by rw [hlo2]; exact h64)]; exact congrArg (fun z => some (Value.bool z)) HG.out
          clear h0 hS
          go_wp2_with fail
          go_roundw
          case rel => exact ⟨k + 1, by omega, by go_num, by rw [Hcnt.out]; rfl, hW⟩
          case measure => simp [intOf]; omega
        · go_wp2_with fail
          refine wp_region_det (fun W => W.cell? ⟨G, k, none⟩ = some (.bool true) ∧ W.cell? ⟨G + 1, k, none⟩ = some (.bool true)) (Two w G (bitL x) (bitL y) O A C) (by kernel_rfl) hS.drew ?_
          refine wpDet_take ?vtt0 (Two.stays _ _ _ _ _ _ _) (h0 _ _ _) (i := 0) rfl (by kernel_rfl) (by kernel_rfl) (by kernel_rfl) (fun _ _ _ h => h) (Gives.value (by rfl) ?ytt0) ?rtt0
          case ytt0 => (intro w' hSw; (try dsimp only at hSw); go_simp; try with_reducible rfl)
          (try simp only [Act.put, List.getElem_toArray, List.getElem_cons_zero, List.getElem_cons_succ, List.setIfInBounds_toArray, List.set_cons_zero, List.set_cons_succ])
          refine wpDet_take ?vtt1 (Two.stays _ _ _ _ _ _ _) (h0 _ _ _) (i := 1) rfl (by kernel_rfl) (by kernel_rfl) (by kernel_rfl) (fun _ _ _ h => h) (Gives.value (by rfl) ?ytt1) ?rtt1
          case ytt1 => (intro w' hSw; (try dsimp only at hSw); go_simp; try with_reducible rfl)
          (try simp only [Act.put, List.getElem_toArray, List.getElem_cons_zero, List.getElem_cons_succ, List.setIfInBounds_toArray, List.set_cons_zero, List.set_cons_succ])
          refine wpDet_take ?vtt2 (Two.stays _ _ _ _ _ _ _) (h0 _ _ _) (i := 2) rfl (by kernel_rfl) (by kernel_rfl) (by kernel_rfl) (fun _ _ _ h => h) (Gives.value (by rfl) ?ytt2) ?rtt2
          case ytt2 => (intro w' hSw; (try dsimp only at hSw); go_simp; try with_reducible rfl)
          (try simp only [Act.put, List.getElem_toArray, List.getElem_cons_zero, List.getElem_cons_succ, List.setIfInBounds_toArray, List.set_cons_zero, List.set_cons_succ])
          refine wpDet_take ?vtt3 (Two.stays _ _ _ _ _ _ _) (h0 _ _ _) (i := 3) rfl (by kernel_rfl) (by kernel_rfl) (by kernel_rfl) (fun _ _ _ h => h) (Gives.value (by rfl) ?ytt3) ?rtt3
          case ytt3 => (intro w' hSw; (try dsimp only at hSw); go_simp; try with_reducible rfl)
          (try simp only [Act.put, List.getElem_toArray, List.getElem_cons_zero, List.getElem_cons_succ, List.setIfInBounds_toArray, List.set_cons_zero, List.set_cons_succ])
          refine wpDet_take ?vtt4 (Two.stays _ _ _ _ _ _ _) (h0 _ _ _) (i := 4) rfl (by kernel_rfl) (by kernel_rfl) (by kernel_rfl) (fun _ _ _ h => h) (Gives.value (by rfl) ?ytt4) ?rtt4
          case ytt4 => (intro w' hSw; (try dsimp only at hSw); go_simp; try with_reducible rfl)
          (try simp only [Act.put, List.getElem_toArray, List.getElem_cons_zero, List.getElem_cons_succ, List.setIfInBounds_toArray, List.set_cons_zero, List.set_cons_succ])
          refine wpDet_take ?vtt5 (Two.stays _ _ _ _ _ _ _) (h0 _ _ _) (i := 5) rfl (by kernel_rfl) (by kernel_rfl) (by kernel_rfl) (fun _ _ _ h => h) (Gives.value (by rfl) ?ytt5) ?rtt5
          case ytt5 => (intro w' hSw; obtain ⟨c1, c2⟩ := hSw; (try dsimp only at hSw); go_simp; try with_reducible rfl)
          (try simp only [Act.put, List.getElem_toArray, List.getElem_cons_zero, List.getElem_cons_succ, List.setIfInBounds_toArray, List.set_cons_zero, List.set_cons_succ])
          refine wpDet_take ?vtt6 (Two.stays _ _ _ _ _ _ _) (h0 _ _ _) (i := 6) rfl (by kernel_rfl) (by kernel_rfl) (by kernel_rfl) (fun _ _ _ h => h) (Gives.value (by rfl) ?ytt6) ?rtt6
          case ytt6 => (intro w' hSw; (try dsimp only at hSw); go_simp; try with_reducible rfl)
          (try simp only [Act.put, List.getElem_toArray, List.getElem_cons_zero, List.getElem_cons_succ, List.setIfInBounds_toArray, List.set_cons_zero, List.set_cons_succ])
          refine wpDet_take undef (Two.stays _ _ _ _ _ _ _) (h0 _ _ _) (i := 7) rfl (by kernel_rfl) (by kernel_rfl) (by kernel_rfl) (fun _ _ _ h => h) (Gives.not (by rfl)) ?_
          (try simp only [Act.put, List.getElem_toArray, List.getElem_cons_zero, List.getElem_cons_succ, List.setIfInBounds_toArray, List.set_cons_zero, List.set_cons_succ])
          refine wpDet_take undef (Two.stays _ _ _ _ _ _ _) (h0 _ _ _) (i := 8) rfl (by kernel_rfl) (by kernel_rfl) (by kernel_rfl) (fun _ _ _ h => h) (Gives.not (by rfl)) ?_
          (try simp only [Act.put, List.getElem_toArray, List.getElem_cons_zero, List.getElem_cons_succ, List.setIfInBounds_toArray, List.set_cons_zero, List.set_cons_succ])
          refine wpDet_take undef (Two.stays _ _ _ _ _ _ _) (h0 _ _ _) (i := 9) rfl (by kernel_rfl) (by kernel_rfl) (by kernel_rfl) (fun _ _ _ h => h) (Gives.not (by rfl)) ?_
          (try simp only [Act.put, List.getElem_toArray, List.getElem_cons_zero, List.getElem_cons_succ, List.setIfInBounds_toArray, List.set_cons_zero, List.set_cons_succ])
          refine wpDet_take ?vtt10 (Two.stays _ _ _ _ _ _ _) (h0 _ _ _) (i := 10) rfl (by kernel_rfl) (by kernel_rfl) (by kernel_rfl) (fun _ _ _ h => h) (Gives.value (by rfl) ?ytt10) ?rtt10
          case ytt10 => (intro w' hSw; (try dsimp only at hSw); go_simp; try with_reducible rfl)
          (try simp only [Act.put, List.getElem_toArray, List.getElem_cons_zero, List.getElem_cons_succ, List.setIfInBounds_toArray, List.set_cons_zero, List.set_cons_succ])
          refine wpDet_take ?vtt11 (Two.stays _ _ _ _ _ _ _) (h0 _ _ _) (i := 11) rfl (by kernel_rfl) (by kernel_rfl) (by kernel_rfl) (fun _ _ _ h => h) (Gives.value (by rfl) ?ytt11) ?rtt11
          case ytt11 => (intro w' hSw; (try dsimp only at hSw); go_simp; try with_reducible rfl)
          (try simp only [Act.put, List.getElem_toArray, List.getElem_cons_zero, List.getElem_cons_succ, List.setIfInBounds_toArray, List.set_cons_zero, List.set_cons_succ])
          refine wpDet_take ?vtt12 (Two.stays _ _ _ _ _ _ _) (h0 _ _ _) (i := 12) rfl (by kernel_rfl) (by kernel_rfl) (by kernel_rfl) (fun _ _ _ h => h) (Gives.value (by rfl) ?ytt12) ?rtt12
          case ytt12 => (intro w' hSw; (try dsimp only at hSw); go_simp; try with_reducible rfl)
          (try simp only [Act.put, List.getElem_toArray, List.getElem_cons_zero, List.getElem_cons_succ, List.setIfInBounds_toArray, List.set_cons_zero, List.set_cons_succ])
          refine wpDet_take ?vtt13 (Two.stays _ _ _ _ _ _ _) (h0 _ _ _) (i := 13) rfl (by kernel_rfl) (by kernel_rfl) (by kernel_rfl) (fun _ _ _ h => h) (Gives.value (by rfl) ?ytt13) ?rtt13
          case ytt13 => (intro w' hSw; obtain ⟨c1, c2⟩ := hSw; (try dsimp only at hSw); go_simp; try with_reducible rfl)
          (try simp only [Act.put, List.getElem_toArray, List.getElem_cons_zero, List.getElem_cons_succ, List.setIfInBounds_toArray, List.set_cons_zero, List.set_cons_succ])
          refine wpDet_take ?vtt14 (Two.stays _ _ _ _ _ _ _) (h0 _ _ _) (i := 14) rfl (by kernel_rfl) (by kernel_rfl) (by kernel_rfl) (fun _ _ _ h => h) (Gives.value (by rfl) ?ytt14) ?rtt14
          case ytt14 => (intro w' hSw; (try dsimp only at hSw); go_simp; try with_reducible rfl)
          (try simp only [Act.put, List.getElem_toArray, List.getElem_cons_zero, List.getElem_cons_succ, List.setIfInBounds_toArray, List.set_cons_zero, List.set_cons_succ])
          refine wpDet_take ?vtt15 (Two.stays _ _ _ _ _ _ _) (h0 _ _ _) (i := 15) rfl (by kernel_rfl) (by kernel_rfl) (by kernel_rfl) (fun _ _ _ h => h) (Gives.value (by rfl) ?ytt15) ?rtt15
          case ytt15 => (intro w' hSw; (try dsimp only at hSw); go_simp; try with_reducible rfl)
          (try simp only [Act.put, List.getElem_toArray, List.getElem_cons_zero, List.getElem_cons_succ, List.setIfInBounds_toArray, List.set_cons_zero, List.set_cons_succ])
          refine wpDet_take ?vtt16 (Two.stays _ _ _ _ _ _ _) (h0 _ _ _) (i := 16) rfl (by kernel_rfl) (by kernel_rfl) (by kernel_rfl) (fun _ _ _ h => h) (Gives.value (by rfl) ?ytt16) ?rtt16
          case ytt16 => (intro w' hSw; (try dsimp only at hSw); go_simp; try with_reducible rfl)
          (try simp only [Act.put, List.getElem_toArray, List.getElem_cons_zero, List.getElem_cons_succ, List.setIfInBounds_toArray, List.set_cons_zero, List.set_cons_succ])
          refine wpDet_take ?vtt17 (Two.stays _ _ _ _ _ _ _) (h0 _ _ _) (i := 17) rfl (by kernel_rfl) (by kernel_rfl) (by kernel_rfl) (fun _ _ _ h => h) (Gives.value (by rfl) ?ytt17) ?rtt17
          case ytt17 => (intro w' hSw; obtain ⟨c1, c2⟩ := hSw; (try dsimp only at hSw); go_simp; try with_reducible rfl)
          (try simp only [Act.put, List.getElem_toArray, List.getElem_cons_zero, List.getElem_cons_succ, List.setIfInBounds_toArray, List.set_cons_zero, List.set_cons_succ])
          refine wpDet_take ?vtt18 (Two.stays _ _ _ _ _ _ _) (h0 _ _ _) (i := 18) rfl (by kernel_rfl) (by kernel_rfl) (by kernel_rfl) (fun _ _ _ h => h) (Gives.value (by rfl) ?ytt18) ?rtt18
          case ytt18 => (intro w' hSw; (try dsimp only at hSw); go_simp; try with_reducible rfl)
          (try simp only [Act.put, List.getElem_toArray, List.getElem_cons_zero, List.getElem_cons_succ, List.setIfInBounds_toArray, List.set_cons_zero, List.set_cons_succ])
          refine wpDet_take ?vtt19 (Two.stays _ _ _ _ _ _ _) (h0 _ _ _) (i := 19) rfl (by kernel_rfl) (by kernel_rfl) (by kernel_rfl) (fun _ _ _ h => h) (Gives.value (by rfl) ?ytt19) ?rtt19
          case ytt19 => (intro w' hSw; (try dsimp only at hSw); go_simp; try with_reducible rfl)
          (try simp only [Act.put, List.getElem_toArray, List.getElem_cons_zero, List.getElem_cons_succ, List.setIfInBounds_toArray, List.set_cons_zero, List.set_cons_succ])
          refine wpDet_take ?vtt20 (Two.stays _ _ _ _ _ _ _) (h0 _ _ _) (i := 20) rfl (by kernel_rfl) (by kernel_rfl) (by kernel_rfl) (fun _ _ _ h => h) (Gives.value (by rfl) ?ytt20) ?rtt20
          case ytt20 => (intro w' hSw; (try dsimp only at hSw); go_simp; try with_reducible rfl)
          (try simp only [Act.put, List.getElem_toArray, List.getElem_cons_zero, List.getElem_cons_succ, List.setIfInBounds_toArray, List.set_cons_zero, List.set_cons_succ])
          refine wpDet_take ?vtt21 (Two.stays _ _ _ _ _ _ _) (h0 _ _ _) (i := 21) rfl (by kernel_rfl) (by kernel_rfl) (by kernel_rfl) (fun _ _ _ h => h) (Gives.value (by rfl) ?ytt21) ?rtt21
          case ytt21 => (intro w' hSw; obtain ⟨c1, c2⟩ := hSw; (try dsimp only at hSw); go_simp; try with_reducible rfl)
          (try simp only [Act.put, List.getElem_toArray, List.getElem_cons_zero, List.getElem_cons_succ, List.setIfInBounds_toArray, List.set_cons_zero, List.set_cons_succ])
          refine wpDet_take ?vtt22 (Two.stays _ _ _ _ _ _ _) (h0 _ _ _) (i := 22) rfl (by kernel_rfl) (by kernel_rfl) (by kernel_rfl) (fun _ _ _ h => h) (Gives.value (by rfl) ?ytt22) ?rtt22
          case ytt22 => (intro w' hSw; (try dsimp only at hSw); go_simp; try with_reducible rfl)
          (try simp only [Act.put, List.getElem_toArray, List.getElem_cons_zero, List.getElem_cons_succ, List.setIfInBounds_toArray, List.set_cons_zero, List.set_cons_succ])
          refine wpDet_take ?vtt23 (Two.stays _ _ _ _ _ _ _) (h0 _ _ _) (i := 23) rfl (by kernel_rfl) (by kernel_rfl) (by kernel_rfl) (fun _ _ _ h => h) (Gives.value (by rfl) ?ytt23) ?rtt23
          case ytt23 => (intro w' hSw; (try dsimp only at hSw); go_simp; try with_reducible rfl)
          (try simp only [Act.put, List.getElem_toArray, List.getElem_cons_zero, List.getElem_cons_succ, List.setIfInBounds_toArray, List.set_cons_zero, List.set_cons_succ])
          refine wpDet_take ?vtt24 (Two.stays _ _ _ _ _ _ _) (h0 _ _ _) (i := 24) rfl (by kernel_rfl) (by kernel_rfl) (by kernel_rfl) (fun _ _ _ h => h) (Gives.value (by rfl) ?ytt24) ?rtt24
          case ytt24 => (intro w' hSw; (try dsimp only at hSw); go_simp; try with_reducible rfl)
          (try simp only [Act.put, List.getElem_toArray, List.getElem_cons_zero, List.getElem_cons_succ, List.setIfInBounds_toArray, List.set_cons_zero, List.set_cons_succ])
          refine wpDet_take ?vtt25 (Two.stays _ _ _ _ _ _ _) (h0 _ _ _) (i := 25) rfl (by kernel_rfl) (by kernel_rfl) (by kernel_rfl) (fun _ _ _ h => h) (Gives.value (by rfl) ?ytt25) ?rtt25
          case ytt25 => (intro w' hSw; obtain ⟨c1, c2⟩ := hSw; (try dsimp only at hSw); go_simp; try with_reducible rfl)
          (try simp only [Act.put, List.getElem_toArray, List.getElem_cons_zero, List.getElem_cons_succ, List.setIfInBounds_toArray, List.set_cons_zero, List.set_cons_succ])
          refine wpDet_take ?vtt26 (Two.stays _ _ _ _ _ _ _) (h0 _ _ _) (i := 26) rfl (by kernel_rfl) (by kernel_rfl) (by kernel_rfl) (fun _ _ _ h => h) (Gives.value (by rfl) ?ytt26) ?rtt26
          case ytt26 => (intro w' hSw; (try dsimp only at hSw); go_simp; try with_reducible rfl)
          (try simp only [Act.put, List.getElem_toArray, List.getElem_cons_zero, List.getElem_cons_succ, List.setIfInBounds_toArray, List.set_cons_zero, List.set_cons_succ])
          refine wpDet_take ?vtt27 (Two.stays _ _ _ _ _ _ _) (h0 _ _ _) (i := 27) rfl (by kernel_rfl) (by kernel_rfl) (by kernel_rfl) (fun _ _ _ h => h) (Gives.value (by rfl) ?ytt27) ?rtt27
          case ytt27 => (intro w' hSw; (try dsimp only at hSw); go_simp; try with_reducible rfl)
          (try simp only [Act.put, List.getElem_toArray, List.getElem_cons_zero, List.getElem_cons_succ, List.setIfInBounds_toArray, List.set_cons_zero, List.set_cons_succ])
          refine wpDet_take ?vtt28 (Two.stays _ _ _ _ _ _ _) (h0 _ _ _) (i := 28) rfl (by kernel_rfl) (by kernel_rfl) (by kernel_rfl) (fun _ _ _ h => h) (Gives.value (by rfl) ?ytt28) ?rtt28
          case ytt28 => (intro w' hSw; (try dsimp only at hSw); go_simp; try with_reducible rfl)
          (try simp only [Act.put, List.getElem_toArray, List.getElem_cons_zero, List.getElem_cons_succ, List.setIfInBounds_toArray, List.set_cons_zero, List.set_cons_succ])
          refine wpDet_ready (rs := [29]) (by kernel_rfl) (by simp) (AllDet.cons rfl (fun W hW K hK => ?_) AllDet.nil)
          have hc1 := hW.o.cell (i := k) (by rw [hlo]; exact h64)
          have hf1 := hW.o.free k
          go_simp
          refine hK.out _ _ _ (Two.stays _ _ _ _ _ _ _) (h0 _ _ _) (hW.setO k true) ?_
          clear hK K hc1 hf1 hW
          (try simp only [Act.put, List.getElem_toArray, List.getElem_cons_zero, List.getElem_cons_succ, List.setIfInBounds_toArray, List.set_cons_zero, List.set_cons_succ])
          refine wpDet_take ?vtt30 (Two.stays _ _ _ _ _ _ _) (h0 _ _ _) (i := 30) rfl (by kernel_rfl) (by kernel_rfl) (by kernel_rfl) (fun _ _ _ h => h) (Gives.value (by rfl) ?ytt30) ?rtt30
          case ytt30 => (intro w' hSw; (try dsimp only at hSw); go_simp; try with_reducible rfl)
          (try simp only [Act.put, List.getElem_toArray, List.getElem_cons_zero, List.getElem_cons_succ, List.setIfInBounds_toArray, List.set_cons_zero, List.set_cons_succ])
          refine wpDet_ready (rs := [31]) (by kernel_rfl) (by simp) (AllDet.cons rfl (fun W hW K hK => ?_) AllDet.nil)
          have hc1 := hW.a.cell (i := k) (by rw [hla]; exact h64)
          have hf1 := hW.a.free k
          go_simp
          refine hK.out _ _ _ (Two.stays _ _ _ _ _ _ _) (h0 _ _ _) (hW.setA k true) ?_
          clear hK K hc1 hf1 hW
          (try simp only [Act.put, List.getElem_toArray, List.getElem_cons_zero, List.getElem_cons_succ, List.setIfInBounds_toArray, List.set_cons_zero, List.set_cons_succ])
          refine wpDet_take ?vtt32 (Two.stays _ _ _ _ _ _ _) (h0 _ _ _) (i := 32) rfl (by kernel_rfl) (by kernel_rfl) (by kernel_rfl) (fun _ _ _ h => h) (Gives.value (by rfl) ?ytt32) ?rtt32
          case ytt32 => (intro w' hSw; (try dsimp only at hSw); go_simp; try with_reducible rfl)
          (try simp only [Act.put, List.getElem_toArray, List.getElem_cons_zero, List.getElem_cons_succ, List.setIfInBounds_toArray, List.set_cons_zero, List.set_cons_succ])
          refine wpDet_ready (rs := [33]) (by kernel_rfl) (by simp) (AllDet.cons rfl (fun W hW K hK => ?_) AllDet.nil)
          have hc1 := hW.c.cell (i := k) (by rw [hlc]; exact h64)
          have hf1 := hW.c.free k
          go_simp
          refine hK.out _ _ _ (Two.stays _ _ _ _ _ _ _) (h0 _ _ _) (hW.setC k false) ?_
          clear hK K hc1 hf1 hW
          (try simp only [Act.put, List.getElem_toArray, List.getElem_cons_zero, List.getElem_cons_succ, List.setIfInBounds_toArray, List.set_cons_zero, List.set_cons_succ])
          refine wpDet_done (by kernel_rfl) (fun W hW => ?_) _
          rw [show O.set k true = upL (orB x y) (k + 1) from HO.out, show A.set k true = upL (andB x y) (k + 1) from HA.out, show C.set k false = upL (butB x y) (k + 1) from HC.out] at hW
          have hc2 : W.cell? ⟨G + 1 + 1 + 1, k, none⟩ = some (.bool true) := by rw [hW.a.cell (i := k) (by rw [hlo2]; exact h64)]; exact congrArg (fun z => some (Value.bool z)) HG.out
          clear h0 hS
          go_wp2_with fail
          go_roundw
          case rel => exact ⟨k + 1, by omega, by go_num, by rw [Hcnt.out]; go_num, hW⟩
          case measure => simp [intOf]; omega
    · obtain rfl : k = 64 := by omega
      rw [orB_end, andB_end, butB_end x y hy] at hS
      have hpop : cnt (andB x y) 64 = pop (x &&& y) := cnt_congr 64 fun i _ => by rw [Nat.testBit_and]; rfl
      rw [hpop]
      have hio := info_set (bitL (x ||| y)) (bitL_len _)
      have hia := info_set (bitL (x &&& y)) (bitL_len _)
      have hic := info_set (bitL (x &&& (18446744073709551615 - y))) (bitL_len _)
      have hlo := or_lt64 hx hy
      have hla := and_lt64 (b := y) hx
      have hlc := and_lt64 (b := 18446744073709551615 - y) hx
      have cO := fun W => (or_any x y W hx hy).mono (fun e w' h => (⟨h.1, h.2 ▸ Below.refl _ _⟩ : _ ∧ Below W.heap.size W w'))
      have cA := fun W => (and_any x y W hx hy).mono (fun e w' h => (⟨h.1, h.2 ▸ Below.refl _ _⟩ : _ ∧ Below W.heap.size W w'))
      have cC := fun W => (but_any x y W hx hy).mono (fun e w' h => (⟨h.1, h.2 ▸ Below.refl _ _⟩ : _ ∧ Below W.heap.size W w'))
      have cM := fun W => (most_any x y W hx hy).mono (fun e w' h => (⟨h.1, h.2 ▸ Below.refl _ _⟩ : _ ∧ Below W.heap.size W w'))
      have cLx := fun W => (len_any x W hx).mono (fun e w' h => (⟨h.1, h.2 ▸ Below.refl _ _⟩ : _ ∧ Below W.heap.size W w'))
      have cLy := fun W => (len_any y W hy).mono (fun e w' h => (⟨h.1, h.2 ▸ Below.refl _ _⟩ : _ ∧ Below W.heap.size W w'))
      have cLo := fun W => (len_any (x ||| y) W hlo).mono (fun e w' h => (⟨h.1, h.2 ▸ Below.refl _ _⟩ : _ ∧ Below W.heap.size W w'))
      have cLa := fun W => (len_any (x &&& y) W hla).mono (fun e w' h => (⟨h.1, h.2 ▸ Below.refl _ _⟩ : _ ∧ Below W.heap.size W w'))
      have cWo := fun W => word_any (bitL (x ||| y)) W (bitL_len _)
      have cWa := fun W => word_any (bitL (x &&& y)) W (bitL_len _)
      have cWc := fun W => word_any (bitL (x &&& (18446744073709551615 - y))) W (bitL_len _)
      rw [word_bits _ hlo] at cWo
      rw [word_bits _ hla] at cWa
      rw [word_bits _ hlc] at cWc
      have hS0 : Arr wr (G + 1 + 1) (bitL (x ||| y)) ∧ Arr wr (G + 1 + 1 + 1) (bitL (x &&& y)) ∧ Arr wr (G + 1 + 1 + 1 + 1) (bitL (x &&& (18446744073709551615 - y))) ∧ Tab wr ∧ Below w.heap.size w wr := ⟨hS.o, hS.a, hS.c, hT.below hS.b, hS.b⟩
      have hpp := pop_or_and x y
      have hl1 := pop_le (x ||| y)
      have hl2 := pop_le (x &&& y)
      have hl3 := pop_le x
      have hl4 := pop_le y
      have HM : Hid (decide (pop y < 2 * pop (x &&& y)) = decide ((pop y : Int) < IntKind.i64.wrap ((pop (x &&& y) : Int) + (pop (x &&& y) : Int)))) := by
        unfold Hid
        rw [IntKind.wrap_i64, decide_eq_decide]
        omega
      have HE : Hid (IntKind.i64.wrap ((pop x : Int) + (pop y : Int)) = IntKind.i64.wrap ((pop (x ||| y) : Int) + (pop (x &&& y) : Int))) := by
        unfold Hid
        congr 1
        omega
      generalize decide (pop y < 2 * pop (x &&& y)) = mm at cM HM
      generalize pop (x ||| y) = po at *
      generalize pop (x &&& y) = pa at *
      generalize pop x = px at *
      generalize pop y = py at *
      generalize bitL (x ||| y) = bo at *
      generalize bitL (x &&& y) = ba at *
      generalize bitL (x &&& (18446744073709551615 - y)) = bc at *
      generalize (x &&& (18446744073709551615 - y)) = zc at *
      generalize (x ||| y) = zo at *
      generalize (x &&& y) = za at *
      have cAw : ∀ W, (Arr W (G + 1 + 1) bo ∧ Arr W (G + 1 + 1 + 1) ba ∧ Arr W (G + 1 + 1 + 1 + 1) bc ∧ Tab W ∧ Below w.heap.size w W) → Calls Tryd.prog 14 #[] W fun e w' => e = .returned (.bool true) ∧ Below W.heap.size W w' := fun W h => awake_any W h.2.2.2.1
      have hst : Stays (fun W => Arr W (G + 1 + 1) bo ∧ Arr W (G + 1 + 1 + 1) ba ∧ Arr W (G + 1 + 1 + 1 + 1) bc ∧ Tab W ∧ Below w.heap.size w W) := fun W W' h hb => ⟨h.1.below hb, h.2.1.below hb, h.2.2.1.below hb, h.2.2.2.1.below hb, h.2.2.2.2.trans (hb.mono h.2.2.2.2.size)⟩
      clear hpop hS hpp
      go_wp2_with fail
      refine wp_region_det (fun W => Arr W (G + 1 + 1) bo ∧ Arr W (G + 1 + 1 + 1) ba ∧ Arr W (G + 1 + 1 + 1 + 1) bc ∧ Tab W ∧ Below w.heap.size w W) (fun W => Arr W (G + 1 + 1) bo ∧ Arr W (G + 1 + 1 + 1) ba ∧ Arr W (G + 1 + 1 + 1 + 1) bc ∧ Tab W ∧ Below w.heap.size w W) (by kernel_rfl) (hst _ _ hS0 (Below.refl _ _).drew) ?_
      refine wpDet_take ?vz0 hst (fun _ h => h) (i := 0) rfl (by kernel_rfl) (by kernel_rfl) (by kernel_rfl) (fun _ _ _ h => h) (Gives.value (by rfl) ?yz0) ?rz0
      case yz0 => (intro w' hSw; (try dsimp only at hSw); go_simp; try with_reducible rfl)
      (try simp only [Act.put, List.getElem_toArray, List.getElem_cons_zero, List.getElem_cons_succ, List.setIfInBounds_toArray, List.set_cons_zero, List.set_cons_succ])
      refine wpDet_take ?vz1 hst (fun _ h => h) (i := 1) rfl (by kernel_rfl) (by kernel_rfl) (by kernel_rfl) (fun _ _ _ h => h) (Gives.value (by rfl) ?yz1) ?rz1
      case yz1 => (intro w' hSw; (try dsimp only at hSw); go_simp; try with_reducible rfl)
      (try simp only [Act.put, List.getElem_toArray, List.getElem_cons_zero, List.getElem_cons_succ, List.setIfInBounds_toArray, List.set_cons_zero, List.set_cons_succ])
      refine wpDet_take (.int .u64 (zo : Nat)) hst (fun _ h => h) (i := 2) rfl (by kernel_rfl) (by kernel_rfl) (by kernel_rfl) (fun _ _ _ h => h) (Gives.call 8 #[.int .u64 x, .int .u64 y] (by rfl) (fun _ => by first | (go_simp; done) | (go_simp; rfl)) (fun W hW => cO W)) ?_
      (try simp only [Act.put, List.getElem_toArray, List.getElem_cons_zero, List.getElem_cons_succ, List.setIfInBounds_toArray, List.set_cons_zero, List.set_cons_succ])
      refine wpDet_take _ hst (fun _ h => h) (i := 3) rfl (by kernel_rfl) (by kernel_rfl) (by kernel_rfl) (fun _ _ _ h => h) (Gives.of_yields (yieldsIf_load_mid (by rfl) _ _ rfl _ _ rfl _ _ (fun _ h => h.1.range) Tryd.underlying25 rfl hio)) ?_
      (try simp only [Act.put, List.getElem_toArray, List.getElem_cons_zero, List.getElem_cons_succ, List.setIfInBounds_toArray, List.set_cons_zero, List.set_cons_succ])
      refine wpDet_take (.int .u64 (zo : Nat)) hst (fun _ h => h) (i := 4) rfl (by kernel_rfl) (by kernel_rfl) (by kernel_rfl) (fun _ _ _ h => h) (Gives.call 9 #[.agg (bools bo)] (by rfl) (fun _ => by first | (go_simp; done) | (go_simp; rfl)) (fun W hW => cWo W)) ?_
      (try simp only [Act.put, List.getElem_toArray, List.getElem_cons_zero, List.getElem_cons_succ, List.setIfInBounds_toArray, List.set_cons_zero, List.set_cons_succ])
      refine wpDet_take ?vz5 hst (fun _ h => h) (i := 5) rfl (by kernel_rfl) (by kernel_rfl) (by kernel_rfl) (fun _ _ _ h => h) (Gives.value (by rfl) ?yz5) ?rz5
      case yz5 => (intro w' hSw; (try dsimp only at hSw); go_simp; try with_reducible rfl)
      (try simp only [Act.put, List.getElem_toArray, List.getElem_cons_zero, List.getElem_cons_succ, List.setIfInBounds_toArray, List.set_cons_zero, List.set_cons_succ])
      refine wpDet_take ?vz6 hst (fun _ h => h) (i := 6) rfl (by kernel_rfl) (by kernel_rfl) (by kernel_rfl) (fun _ _ _ h => h) (Gives.value (by rfl) ?yz6) ?rz6
      case yz6 => (intro w' hSw; (try dsimp only at hSw); go_simp; try with_reducible rfl)
      (try simp only [Act.put, List.getElem_toArray, List.getElem_cons_zero, List.getElem_cons_succ, List.setIfInBounds_toArray, List.set_cons_zero, List.set_cons_succ])
      refine wpDet_take ?vz7 hst (fun _ h => h) (i := 7) rfl (by kernel_rfl) (by kernel_rfl) (by kernel_rfl) (fun _ _ _ h => h) (Gives.value (by rfl) ?yz7) ?rz7
      case yz7 => (intro w' hSw; (try dsimp only at hSw); go_simp; try with_reducible rfl)
      (try simp only [Act.put, List.getElem_toArray, List.getElem_cons_zero, List.getElem_cons_succ, List.setIfInBounds_toArray, List.set_cons_zero, List.set_cons_succ])
      refine wpDet_take ?vz8 hst (fun _ h => h) (i := 8) rfl (by kernel_rfl) (by kernel_rfl) (by kernel_rfl) (fun _ _ _ h => h) (Gives.value (by rfl) ?yz8) ?rz8
      case yz8 => (intro w' hSw; (try dsimp only at hSw); go_simp; try with_reducible rfl)
      (try simp only [Act.put, List.getElem_toArray, List.getElem_cons_zero, List.getElem_cons_succ, List.setIfInBounds_toArray, List.set_cons_zero, List.set_cons_succ])
      refine wpDet_take (.int .u64 (za : Nat)) hst (fun _ h => h) (i := 9) rfl (by kernel_rfl) (by kernel_rfl) (by kernel_rfl) (fun _ _ _ h => h) (Gives.call 10 #[.int .u64 x, .int .u64 y] (by rfl) (fun _ => by first | (go_simp; done) | (go_simp; rfl)) (fun W hW => cA W)) ?_
      (try simp only [Act.put, List.getElem_toArray, List.getElem_cons_zero, List.getElem_cons_succ, List.setIfInBounds_toArray, List.set_cons_zero, List.set_cons_succ])
      refine wpDet_take _ hst (fun _ h => h) (i := 10) rfl (by kernel_rfl) (by kernel_rfl) (by kernel_rfl) (fun _ _ _ h => h) (Gives.of_yields (yieldsIf_load_mid (by rfl) _ _ rfl _ _ rfl _ _ (fun _ h => h.2.1.range) Tryd.underlying25 rfl hia)) ?_
      (try simp only [Act.put, List.getElem_toArray, List.getElem_cons_zero, List.getElem_cons_succ, List.setIfInBounds_toArray, List.set_cons_zero, List.set_cons_succ])
      refine wpDet_take (.int .u64 (za : Nat)) hst (fun _ h => h) (i := 11) rfl (by kernel_rfl) (by kernel_rfl) (by kernel_rfl) (fun _ _ _ h => h) (Gives.call 9 #[.agg (bools ba)] (by rfl) (fun _ => by first | (go_simp; done) | (go_simp; rfl)) (fun W hW => cWa W)) ?_
      (try simp only [Act.put, List.getElem_toArray, List.getElem_cons_zero, List.getElem_cons_succ, List.setIfInBounds_toArray, List.set_cons_zero, List.set_cons_succ])
      refine wpDet_take ?vz12 hst (fun _ h => h) (i := 12) rfl (by kernel_rfl) (by kernel_rfl) (by kernel_rfl) (fun _ _ _ h => h) (Gives.value (by rfl) ?yz12) ?rz12
      case yz12 => (intro w' hSw; (try dsimp only at hSw); go_simp; try with_reducible rfl)
      (try simp only [Act.put, List.getElem_toArray, List.getElem_cons_zero, List.getElem_cons_succ, List.setIfInBounds_toArray, List.set_cons_zero, List.set_cons_succ])
      refine wpDet_take ?vz13 hst (fun _ h => h) (i := 13) rfl (by kernel_rfl) (by kernel_rfl) (by kernel_rfl) (fun _ _ _ h => h) (Gives.value (by rfl) ?yz13) ?rz13
      case yz13 => (intro w' hSw; (try dsimp only at hSw); go_simp; try with_reducible rfl)
      (try simp only [Act.put, List.getElem_toArray, List.getElem_cons_zero, List.getElem_cons_succ, List.setIfInBounds_toArray, List.set_cons_zero, List.set_cons_succ])
      refine wpDet_take ?vz14 hst (fun _ h => h) (i := 14) rfl (by kernel_rfl) (by kernel_rfl) (by kernel_rfl) (fun _ _ _ h => h) (Gives.value (by rfl) ?yz14) ?rz14
      case yz14 => (intro w' hSw; (try dsimp only at hSw); go_simp; try with_reducible rfl)
      (try simp only [Act.put, List.getElem_toArray, List.getElem_cons_zero, List.getElem_cons_succ, List.setIfInBounds_toArray, List.set_cons_zero, List.set_cons_succ])
      refine wpDet_take ?vz15 hst (fun _ h => h) (i := 15) rfl (by kernel_rfl) (by kernel_rfl) (by kernel_rfl) (fun _ _ _ h => h) (Gives.value (by rfl) ?yz15) ?rz15
      case yz15 => (intro w' hSw; (try dsimp only at hSw); go_simp; try with_reducible rfl)
      (try simp only [Act.put, List.getElem_toArray, List.getElem_cons_zero, List.getElem_cons_succ, List.setIfInBounds_toArray, List.set_cons_zero, List.set_cons_succ])
      refine wpDet_take ?vz16 hst (fun _ h => h) (i := 16) rfl (by kernel_rfl) (by kernel_rfl) (by kernel_rfl) (fun _ _ _ h => h) (Gives.value (by rfl) ?yz16) ?rz16
      case yz16 => (intro w' hSw; (try dsimp only at hSw); go_simp; try with_reducible rfl)
      (try simp only [Act.put, List.getElem_toArray, List.getElem_cons_zero, List.getElem_cons_succ, List.setIfInBounds_toArray, List.set_cons_zero, List.set_cons_succ])
      refine wpDet_take (.int .u64 (zc : Nat)) hst (fun _ h => h) (i := 17) rfl (by kernel_rfl) (by kernel_rfl) (by kernel_rfl) (fun _ _ _ h => h) (Gives.call 11 #[.int .u64 x, .int .u64 y] (by rfl) (fun _ => by first | (go_simp; done) | (go_simp; rfl)) (fun W hW => cC W)) ?_
      (try simp only [Act.put, List.getElem_toArray, List.getElem_cons_zero, List.getElem_cons_succ, List.setIfInBounds_toArray, List.set_cons_zero, List.set_cons_succ])
      refine wpDet_take _ hst (fun _ h => h) (i := 18) rfl (by kernel_rfl) (by kernel_rfl) (by kernel_rfl) (fun _ _ _ h => h) (Gives.of_yields (yieldsIf_load_mid (by rfl) _ _ rfl _ _ rfl _ _ (fun _ h => h.2.2.1.range) Tryd.underlying25 rfl hic)) ?_
      (try simp only [Act.put, List.getElem_toArray, List.getElem_cons_zero, List.getElem_cons_succ, List.setIfInBounds_toArray, List.set_cons_zero, List.set_cons_succ])
      refine wpDet_take (.int .u64 (zc : Nat)) hst (fun _ h => h) (i := 19) rfl (by kernel_rfl) (by kernel_rfl) (by kernel_rfl) (fun _ _ _ h => h) (Gives.call 9 #[.agg (bools bc)] (by rfl) (fun _ => by first | (go_simp; done) | (go_simp; rfl)) (fun W hW => cWc W)) ?_
      (try simp only [Act.put, List.getElem_toArray, List.getElem_cons_zero, List.getElem_cons_succ, List.setIfInBounds_toArray, List.set_cons_zero, List.set_cons_succ])
      refine wpDet_take ?vz20 hst (fun _ h => h) (i := 20) rfl (by kernel_rfl) (by kernel_rfl) (by kernel_rfl) (fun _ _ _ h => h) (Gives.value (by rfl) ?yz20) ?rz20
      case yz20 => (intro w' hSw; (try dsimp only at hSw); go_simp; try with_reducible rfl)
      (try simp only [Act.put, List.getElem_toArray, List.getElem_cons_zero, List.getElem_cons_succ, List.setIfInBounds_toArray, List.set_cons_zero, List.set_cons_succ])
      refine wpDet_take ?vz21 hst (fun _ h => h) (i := 21) rfl (by kernel_rfl) (by kernel_rfl) (by kernel_rfl) (fun _ _ _ h => h) (Gives.value (by rfl) ?yz21) ?rz21
      case yz21 => (intro w' hSw; (try dsimp only at hSw); go_simp; try with_reducible rfl)
      (try simp only [Act.put, List.getElem_toArray, List.getElem_cons_zero, List.getElem_cons_succ, List.setIfInBounds_toArray, List.set_cons_zero, List.set_cons_succ])
      refine wpDet_take ?vz22 hst (fun _ h => h) (i := 22) rfl (by kernel_rfl) (by kernel_rfl) (by kernel_rfl) (fun _ _ _ h => h) (Gives.value (by rfl) ?yz22) ?rz22
      case yz22 => (intro w' hSw; (try dsimp only at hSw); go_simp; try with_reducible rfl)
      (try simp only [Act.put, List.getElem_toArray, List.getElem_cons_zero, List.getElem_cons_succ, List.setIfInBounds_toArray, List.set_cons_zero, List.set_cons_succ])
      refine wpDet_take ?vz23 hst (fun _ h => h) (i := 23) rfl (by kernel_rfl) (by kernel_rfl) (by kernel_rfl) (fun _ _ _ h => h) (Gives.value (by rfl) ?yz23) ?rz23
      case yz23 => (intro w' hSw; (try dsimp only at hSw); go_simp; try with_reducible rfl)
      (try simp only [Act.put, List.getElem_toArray, List.getElem_cons_zero, List.getElem_cons_succ, List.setIfInBounds_toArray, List.set_cons_zero, List.set_cons_succ])
      refine wpDet_take (.int .i64 (px : Nat)) hst (fun _ h => h) (i := 24) rfl (by kernel_rfl) (by kernel_rfl) (by kernel_rfl) (fun _ _ _ h => h) (Gives.call 12 #[.int .u64 x] (by rfl) (fun _ => by first | (go_simp; done) | (go_simp; rfl)) (fun W hW => cLx W)) ?_
      (try simp only [Act.put, List.getElem_toArray, List.getElem_cons_zero, List.getElem_cons_succ, List.setIfInBounds_toArray, List.set_cons_zero, List.set_cons_succ])
      refine wpDet_take ?vz25 hst (fun _ h => h) (i := 25) rfl (by kernel_rfl) (by kernel_rfl) (by kernel_rfl) (fun _ _ _ h => h) (Gives.value (by rfl) ?yz25) ?rz25
      case yz25 => (intro w' hSw; (try dsimp only at hSw); go_simp; try with_reducible rfl)
      (try simp only [Act.put, List.getElem_toArray, List.getElem_cons_zero, List.getElem_cons_succ, List.setIfInBounds_toArray, List.set_cons_zero, List.set_cons_succ])
      refine wpDet_take (.int .i64 (py : Nat)) hst (fun _ h => h) (i := 26) rfl (by kernel_rfl) (by kernel_rfl) (by kernel_rfl) (fun _ _ _ h => h) (Gives.call 12 #[.int .u64 y] (by rfl) (fun _ => by first | (go_simp; done) | (go_simp; rfl)) (fun W hW => cLy W)) ?_
      (try simp only [Act.put, List.getElem_toArray, List.getElem_cons_zero, List.getElem_cons_succ, List.setIfInBounds_toArray, List.set_cons_zero, List.set_cons_succ])
      refine wpDet_take ?vz27 hst (fun _ h => h) (i := 27) rfl (by kernel_rfl) (by kernel_rfl) (by kernel_rfl) (fun _ _ _ h => h) (Gives.value (by rfl) ?yz27) ?rz27
      case yz27 => (intro w' hSw; (try dsimp only at hSw); go_simp; try with_reducible rfl)
      (try simp only [Act.put, List.getElem_toArray, List.getElem_cons_zero, List.getElem_cons_succ, List.setIfInBounds_toArray, List.set_cons_zero, List.set_cons_succ])
      refine wpDet_take ?vz28 hst (fun _ h => h) (i := 28) rfl (by kernel_rfl) (by kernel_rfl) (by kernel_rfl) (fun _ _ _ h => h) (Gives.value (by rfl) ?yz28) ?rz28
      case yz28 => (intro w' hSw; (try dsimp only at hSw); go_simp; try with_reducible rfl)
      (try simp only [Act.put, List.getElem_toArray, List.getElem_cons_zero, List.getElem_cons_succ, List.setIfInBounds_toArray, List.set_cons_zero, List.set_cons_succ])
      refine wpDet_take ?vz29 hst (fun _ h => h) (i := 29) rfl (by kernel_rfl) (by kernel_rfl) (by kernel_rfl) (fun _ _ _ h => h) (Gives.value (by rfl) ?yz29) ?rz29
      case yz29 => (intro w' hSw; (try dsimp only at hSw); go_simp; try with_reducible rfl)
      (try simp only [Act.put, List.getElem_toArray, List.getElem_cons_zero, List.getElem_cons_succ, List.setIfInBounds_toArray, List.set_cons_zero, List.set_cons_succ])
      refine wpDet_take (.int .u64 (zo : Nat)) hst (fun _ h => h) (i := 30) rfl (by kernel_rfl) (by kernel_rfl) (by kernel_rfl) (fun _ _ _ h => h) (Gives.call 8 #[.int .u64 x, .int .u64 y] (by rfl) (fun _ => by first | (go_simp; done) | (go_simp; rfl)) (fun W hW => cO W)) ?_
      (try simp only [Act.put, List.getElem_toArray, List.getElem_cons_zero, List.getElem_cons_succ, List.setIfInBounds_toArray, List.set_cons_zero, List.set_cons_succ])
      refine wpDet_take (.int .i64 (po : Nat)) hst (fun _ h => h) (i := 31) rfl (by kernel_rfl) (by kernel_rfl) (by kernel_rfl) (fun _ _ _ h => h) (Gives.call 12 #[.int .u64 (zo : Nat)] (by rfl) (fun _ => by first | (go_simp; done) | (go_simp; rfl)) (fun W hW => cLo W)) ?_
      (try simp only [Act.put, List.getElem_toArray, List.getElem_cons_zero, List.getElem_cons_succ, List.setIfInBounds_toArray, List.set_cons_zero, List.set_cons_succ])
      refine wpDet_take ?vz32 hst (fun _ h => h) (i := 32) rfl (by kernel_rfl) (by kernel_rfl) (by kernel_rfl) (fun _ _ _ h => h) (Gives.value (by rfl) ?yz32) ?rz32
      case yz32 => (intro w' hSw; (try dsimp only at hSw); go_simp; try with_reducible rfl)
      (try simp only [Act.put, List.getElem_toArray, List.getElem_cons_zero, List.getElem_cons_succ, List.setIfInBounds_toArray, List.set_cons_zero, List.set_cons_succ])
      refine wpDet_take ?vz33 hst (fun _ h => h) (i := 33) rfl (by kernel_rfl) (by kernel_rfl) (by kernel_rfl) (fun _ _ _ h => h) (Gives.value (by rfl) ?yz33) ?rz33
      case yz33 => (intro w' hSw; (try dsimp only at hSw); go_simp; try with_reducible rfl)
      (try simp only [Act.put, List.getElem_toArray, List.getElem_cons_zero, List.getElem_cons_succ, List.setIfInBounds_toArray, List.set_cons_zero, List.set_cons_succ])
      refine wpDet_take (.int .u64 (za : Nat)) hst (fun _ h => h) (i := 34) rfl (by kernel_rfl) (by kernel_rfl) (by kernel_rfl) (fun _ _ _ h => h) (Gives.call 10 #[.int .u64 x, .int .u64 y] (by rfl) (fun _ => by first | (go_simp; done) | (go_simp; rfl)) (fun W hW => cA W)) ?_
      (try simp only [Act.put, List.getElem_toArray, List.getElem_cons_zero, List.getElem_cons_succ, List.setIfInBounds_toArray, List.set_cons_zero, List.set_cons_succ])
      refine wpDet_take (.int .i64 (pa : Nat)) hst (fun _ h => h) (i := 35) rfl (by kernel_rfl) (by kernel_rfl) (by kernel_rfl) (fun _ _ _ h => h) (Gives.call 12 #[.int .u64 (za : Nat)] (by rfl) (fun _ => by first | (go_simp; done) | (go_simp; rfl)) (fun W hW => cLa W)) ?_
      (try simp only [Act.put, List.getElem_toArray, List.getElem_cons_zero, List.getElem_cons_succ, List.setIfInBounds_toArray, List.set_cons_zero, List.set_cons_succ])
      refine wpDet_take ?vz36 hst (fun _ h => h) (i := 36) rfl (by kernel_rfl) (by kernel_rfl) (by kernel_rfl) (fun _ _ _ h => h) (Gives.value (by rfl) ?yz36) ?rz36
      case yz36 => (intro w' hSw; (try dsimp only at hSw); go_simp; try with_reducible rfl)
      (try simp only [Act.put, List.getElem_toArray, List.getElem_cons_zero, List.getElem_cons_succ, List.setIfInBounds_toArray, List.set_cons_zero, List.set_cons_succ])
      refine wpDet_take (.bool true) hst (fun _ h => h) (i := 37) rfl (by kernel_rfl) (by kernel_rfl) (by kernel_rfl) (fun _ _ _ h => h) (Gives.value (by rfl) ?yz37) ?rz37
      case yz37 => (intro w' hSw; (try dsimp only at hSw); go_simp; exact HE.out)
      (try simp only [Act.put, List.getElem_toArray, List.getElem_cons_zero, List.getElem_cons_succ, List.setIfInBounds_toArray, List.set_cons_zero, List.set_cons_succ])
      refine wpDet_take ?vz38 hst (fun _ h => h) (i := 38) rfl (by kernel_rfl) (by kernel_rfl) (by kernel_rfl) (fun _ _ _ h => h) (Gives.value (by rfl) ?yz38) ?rz38
      case yz38 => (intro w' hSw; (try dsimp only at hSw); go_simp; try with_reducible rfl)
      (try simp only [Act.put, List.getElem_toArray, List.getElem_cons_zero, List.getElem_cons_succ, List.setIfInBounds_toArray, List.set_cons_zero, List.set_cons_succ])
      refine wpDet_take ?vz39 hst (fun _ h => h) (i := 39) rfl (by kernel_rfl) (by kernel_rfl) (by kernel_rfl) (fun _ _ _ h => h) (Gives.value (by rfl) ?yz39) ?rz39
      case yz39 => (intro w' hSw; (try dsimp only at hSw); go_simp; try with_reducible rfl)
      (try simp only [Act.put, List.getElem_toArray, List.getElem_cons_zero, List.getElem_cons_succ, List.setIfInBounds_toArray, List.set_cons_zero, List.set_cons_succ])
      refine wpDet_take ?vz40 hst (fun _ h => h) (i := 40) rfl (by kernel_rfl) (by kernel_rfl) (by kernel_rfl) (fun _ _ _ h => h) (Gives.value (by rfl) ?yz40) ?rz40
      case yz40 => (intro w' hSw; (try dsimp only at hSw); go_simp; try with_reducible rfl)
      (try simp only [Act.put, List.getElem_toArray, List.getElem_cons_zero, List.getElem_cons_succ, List.setIfInBounds_toArray, List.set_cons_zero, List.set_cons_succ])
      refine wpDet_take ?vz41 hst (fun _ h => h) (i := 41) rfl (by kernel_rfl) (by kernel_rfl) (by kernel_rfl) (fun _ _ _ h => h) (Gives.value (by rfl) ?yz41) ?rz41
      case yz41 => (intro w' hSw; (try dsimp only at hSw); go_simp; try with_reducible rfl)
      (try simp only [Act.put, List.getElem_toArray, List.getElem_cons_zero, List.getElem_cons_succ, List.setIfInBounds_toArray, List.set_cons_zero, List.set_cons_succ])
      refine wpDet_take (.bool mm) hst (fun _ h => h) (i := 42) rfl (by kernel_rfl) (by kernel_rfl) (by kernel_rfl) (fun _ _ _ h => h) (Gives.call 13 #[.int .u64 x, .int .u64 y] (by rfl) (fun _ => by first | (go_simp; done) | (go_simp; rfl)) (fun W hW => cM W)) ?_
      (try simp only [Act.put, List.getElem_toArray, List.getElem_cons_zero, List.getElem_cons_succ, List.setIfInBounds_toArray, List.set_cons_zero, List.set_cons_succ])
      refine wpDet_take ?vz43 hst (fun _ h => h) (i := 43) rfl (by kernel_rfl) (by kernel_rfl) (by kernel_rfl) (fun _ _ _ h => h) (Gives.value (by rfl) ?yz43) ?rz43
      case yz43 => (intro w' hSw; (try dsimp only at hSw); go_simp; try with_reducible rfl)
      (try simp only [Act.put, List.getElem_toArray, List.getElem_cons_zero, List.getElem_cons_succ, List.setIfInBounds_toArray, List.set_cons_zero, List.set_cons_succ])
      refine wpDet_take ?vz44 hst (fun _ h => h) (i := 44) rfl (by kernel_rfl) (by kernel_rfl) (by kernel_rfl) (fun _ _ _ h => h) (Gives.value (by rfl) ?yz44) ?rz44
      case yz44 => (intro w' hSw; (try dsimp only at hSw); go_simp; try with_reducible rfl)
      (try simp only [Act.put, List.getElem_toArray, List.getElem_cons_zero, List.getElem_cons_succ, List.setIfInBounds_toArray, List.set_cons_zero, List.set_cons_succ])
      refine wpDet_take ?vz45 hst (fun _ h => h) (i := 45) rfl (by kernel_rfl) (by kernel_rfl) (by kernel_rfl) (fun _ _ _ h => h) (Gives.value (by rfl) ?yz45) ?rz45
      case yz45 => (intro w' hSw; (try dsimp only at hSw); go_simp; try with_reducible rfl)
      (try simp only [Act.put, List.getElem_toArray, List.getElem_cons_zero, List.getElem_cons_succ, List.setIfInBounds_toArray, List.set_cons_zero, List.set_cons_succ])
      refine wpDet_take ?vz46 hst (fun _ h => h) (i := 46) rfl (by kernel_rfl) (by kernel_rfl) (by kernel_rfl) (fun _ _ _ h => h) (Gives.value (by rfl) ?yz46) ?rz46
      case yz46 => (intro w' hSw; (try dsimp only at hSw); go_simp; try with_reducible rfl)
      (try simp only [Act.put, List.getElem_toArray, List.getElem_cons_zero, List.getElem_cons_succ, List.setIfInBounds_toArray, List.set_cons_zero, List.set_cons_succ])
      refine wpDet_take (.int .i64 (py : Nat)) hst (fun _ h => h) (i := 47) rfl (by kernel_rfl) (by kernel_rfl) (by kernel_rfl) (fun _ _ _ h => h) (Gives.call 12 #[.int .u64 y] (by rfl) (fun _ => by first | (go_simp; done) | (go_simp; rfl)) (fun W hW => cLy W)) ?_
      (try simp only [Act.put, List.getElem_toArray, List.getElem_cons_zero, List.getElem_cons_succ, List.setIfInBounds_toArray, List.set_cons_zero, List.set_cons_succ])
      refine wpDet_take ?vz48 hst (fun _ h => h) (i := 48) rfl (by kernel_rfl) (by kernel_rfl) (by kernel_rfl) (fun _ _ _ h => h) (Gives.value (by rfl) ?yz48) ?rz48
      case yz48 => (intro w' hSw; (try dsimp only at hSw); go_simp; try with_reducible rfl)
      (try simp only [Act.put, List.getElem_toArray, List.getElem_cons_zero, List.getElem_cons_succ, List.setIfInBounds_toArray, List.set_cons_zero, List.set_cons_succ])
      refine wpDet_take (.bool true) hst (fun _ h => h) (i := 49) rfl (by kernel_rfl) (by kernel_rfl) (by kernel_rfl) (fun _ _ _ h => h) (Gives.value (by rfl) ?yz49) ?rz49
      case yz49 => (intro w' hSw; (try dsimp only at hSw); go_simp; exact HM.out)
      (try simp only [Act.put, List.getElem_toArray, List.getElem_cons_zero, List.getElem_cons_succ, List.setIfInBounds_toArray, List.set_cons_zero, List.set_cons_succ])
      refine wpDet_take ?vz50 hst (fun _ h => h) (i := 50) rfl (by kernel_rfl) (by kernel_rfl) (by kernel_rfl) (fun _ _ _ h => h) (Gives.value (by rfl) ?yz50) ?rz50
      case yz50 => (intro w' hSw; (try dsimp only at hSw); go_simp; try with_reducible rfl)
      (try simp only [Act.put, List.getElem_toArray, List.getElem_cons_zero, List.getElem_cons_succ, List.setIfInBounds_toArray, List.set_cons_zero, List.set_cons_succ])
      refine wpDet_take ?vz51 hst (fun _ h => h) (i := 51) rfl (by kernel_rfl) (by kernel_rfl) (by kernel_rfl) (fun _ _ _ h => h) (Gives.value (by rfl) ?yz51) ?rz51
      case yz51 => (intro w' hSw; (try dsimp only at hSw); go_simp; try with_reducible rfl)
      (try simp only [Act.put, List.getElem_toArray, List.getElem_cons_zero, List.getElem_cons_succ, List.setIfInBounds_toArray, List.set_cons_zero, List.set_cons_succ])
      refine wpDet_take (.bool true) hst (fun _ h => h) (i := 52) rfl (by kernel_rfl) (by kernel_rfl) (by kernel_rfl) (fun _ _ _ h => h) (Gives.call 14 #[] (by rfl) (fun _ => by first | (go_simp; done) | (go_simp; rfl)) (fun W hW => cAw W hW)) ?_
      (try simp only [Act.put, List.getElem_toArray, List.getElem_cons_zero, List.getElem_cons_succ, List.setIfInBounds_toArray, List.set_cons_zero, List.set_cons_succ])
      refine wpDet_take ?vz53 hst (fun _ h => h) (i := 53) rfl (by kernel_rfl) (by kernel_rfl) (by kernel_rfl) (fun _ _ _ h => h) (Gives.value (by rfl) ?yz53) ?rz53
      case yz53 => (intro w' hSw; (try dsimp only at hSw); go_simp; try with_reducible rfl)
      (try simp only [Act.put, List.getElem_toArray, List.getElem_cons_zero, List.getElem_cons_succ, List.setIfInBounds_toArray, List.set_cons_zero, List.set_cons_succ])
      refine wpDet_take ?vz54 hst (fun _ h => h) (i := 54) rfl (by kernel_rfl) (by kernel_rfl) (by kernel_rfl) (fun _ _ _ h => h) (Gives.value (by rfl) ?yz54) ?rz54
      case yz54 => (intro w' hSw; (try dsimp only at hSw); go_simp; try with_reducible rfl)
      (try simp only [Act.put, List.getElem_toArray, List.getElem_cons_zero, List.getElem_cons_succ, List.setIfInBounds_toArray, List.set_cons_zero, List.set_cons_succ])
      refine wpDet_done (by kernel_rfl) (fun W hW => ?_) _
      go_wp2_with fail
      go_ret
      exact ⟨rfl, hW.2.2.2.2⟩

theorem walk_MaskTwo (w : World) (hT : Tab w) (a : Int) (wa : (Lit.int .u64 a).wf = true) (b : Int) (wb : (Lit.int .u64 b).wf = true) :
    Calls Tryd.prog 3 #[.int .u64 a, .int .u64 b] w fun e w' => e = .returned (.bool true) ∧ Below w.heap.size w w' := by
  have ba := u64_bounds wa
  have bb := u64_bounds wb
  obtain ⟨x, rfl⟩ := Int.eq_ofNat_of_zero_le ba.1
  obtain ⟨y, rfl⟩ := Int.eq_ofNat_of_zero_le bb.1
  exact two_core x y w hT (by omega) (by omega)

end Go.Proofs.YtjcfepfjomojfaaDoor.M
