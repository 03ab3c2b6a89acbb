/-
  Own text: the reference's way to pack fields, and that it comes to the same; contracts of its fits and Pack.
-/
import Derived.Test.YtddekakihandeaaDoorKPk
import Derived.Test.YtddekakihandeaaDoorKRef
import Derived.Test.YtddekakihandeaaDoorKPop
namespace Go.Proofs.YtddekakihandeaaDoor.M
open Go.ChangeShapes Go.WideShapes Go.ChangeAt Go.RowKit

/-- Does a field fit at all? -/
def fitA (f : Fld) : Bool := decide (1 ≤ f.b ∧ f.b ≤ 64) && fitB f

def rpF : Nat → Nat → List Fld → Option Nat
  | x, _, [] => some x
  | x, t, f :: l => if fitA f = false ∨ (64 : Int) - t < f.b then none else rpF (x ||| uw f.v % 2 ^ f.b.toNat * 2 ^ t) (t + f.b.toNat) l

theorem rp_pk : ∀ (l : List Fld) (x t : Nat), t ≤ 64 → rpF x t l = if (wdF t l).isSome then pkF x t l else none
  | [], x, t, _ => rfl
  | f :: l, x, t, ht => by
    unfold rpF wdF pkF
    by_cases h1 : f.b < 1 ∨ (64 : Int) - t < f.b
    · rw [if_pos h1]
      have : fitA f = false ∨ (64 : Int) - t < f.b := by
        rcases h1 with h | h
        · left; unfold fitA; rw [decide_eq_false (by omega)]; rfl
        · exact Or.inr h
      rw [if_pos this]
      rfl
    · rw [if_neg h1]
      have hA : fitA f = fitB f := by unfold fitA; rw [decide_eq_true (by omega)]; rfl
      rw [hA]
      cases hf : fitB f with
      | false => rw [if_pos (Or.inl rfl)]; split <;> rfl
      | true =>
        rw [if_neg (by simp; omega), rp_pk l _ _ (by omega)]
        rfl

theorem rp_pack (fs : List Fld) : rpF 0 0 fs = packF fs := rp_pk fs 0 0 (by decide)

set_option maxRecDepth 20000 in
set_option maxHeartbeats 1000000 in
theorem fits_any (f : Fld) (w : World) (ho : f.ok) :
    Calls Tryd.prog 23 #[.agg #[.int .i64 f.b, .int .i64 f.v, .bool f.s]] w fun e w' => e = .returned (.bool (fitA f)) ∧ Below w.heap.size w w' := by
  obtain ⟨fb, fv, fs⟩ := f
  obtain ⟨⟨o1, o2⟩, o3, o4⟩ := ho
  dsimp only at o1 o2 o3 o4
  dsimp only
  have hba := (Below.refl w.heap.size w).alloc (Nat.le_refl _) (.cells #[.int .i64 fb, .int .i64 fv, .bool fs] 26)
  by_cases hb1 : fb < 1 ∨ 64 < fb
  · have HF : Hid (fitA ⟨fb, fv, fs⟩ = false) := by unfold Hid fitA; rw [decide_eq_false (by dsimp only; omega)]; rfl
    have hd : decide (fb < 1) = true ∨ (decide (fb < 1) = false ∧ decide (64 < fb) = true) := by
      rcases hb1 with h | h
      · left; exact decide_eq_true h
      · right; exact ⟨decide_eq_false (by omega), decide_eq_true h⟩
    rcases hd with h1 | ⟨h1, h2⟩
    · have h3 : fb < 1 := of_decide_eq_true h1
      go_enter Tryd.func23, Tryd.ntmps23
      go_wp2_with fail
      go_ret
      exact ⟨ret_bool HF.out.symm, hba⟩
    · have h3 : ¬ fb < 1 := of_decide_eq_false h1
      have h4 : 64 < fb := of_decide_eq_true h2
      go_enter Tryd.func23, Tryd.ntmps23
      go_wp2_with fail
      go_ret
      exact ⟨ret_bool HF.out.symm, hba⟩
  · obtain ⟨B, rfl⟩ := Int.eq_ofNat_of_zero_le (show 0 ≤ fb by omega)
    have hA : fitA ⟨B, fv, fs⟩ = fitB ⟨B, fv, fs⟩ := by unfold fitA; rw [decide_eq_true (by dsimp only; omega)]; rfl
    rw [hA]
    have hB1 : 1 ≤ B := by omega
    have hB2 : B ≤ 64 := by omega
    have hd1 : ¬ (B : Int) < 1 := by omega
    have hd2 : ¬ (64 : Int) < (B : Int) := by omega
    clear hb1 hA
    by_cases h64 : B = 64
    · have hq : ((B : Int) == 64) = true := by rw [beq_iff_eq]; omega
      cases fs with
      | true =>
        have HF : Hid (fitB ⟨B, fv, true⟩ = true) := by
          unfold Hid fitB
          rw [if_pos rfl]
          dsimp only
          rw [Int.toNat_natCast, h64]
          exact decide_eq_true (by simp only [Nat.reduceSub, Nat.reducePow]; omega)
        clear h64
        go_enter Tryd.func23, Tryd.ntmps23
        go_wp2_with fail
        go_ret
        exact ⟨ret_bool HF.out.symm, hba⟩
      | false =>
        have HF : Hid (fitB ⟨B, fv, false⟩ = decide (0 ≤ fv)) := by
          unfold Hid fitB
          rw [if_neg Bool.false_ne_true]
          dsimp only
          rw [Int.toNat_natCast, h64]
          simp only [Nat.reducePow]
          rw [decide_eq_decide]
          omega
        clear h64
        go_enter Tryd.func23, Tryd.ntmps23
        go_wp2_with fail
        go_ret
        exact ⟨ret_bool HF.out.symm, hba⟩
    · have hne : ((B : Int) == 64) = false := by rw [beq_eq_false_iff_ne]; omega
      have hp : 2 ^ (B - 1) ≤ 4611686018427387904 := Nat.le_trans (Nat.pow_le_pow_right (by decide) (show B - 1 ≤ 62 by omega)) (by decide)
      have hp0 : 0 < 2 ^ (B - 1) := Nat.pow_pos (by decide)
      have hpp : 2 ^ B = 2 * 2 ^ (B - 1) := pow_half hB1
      go_enter Tryd.func23, Tryd.ntmps23
      go_wp2_with fail
      go_loop [3, 25] (fun tv i => ∃ k : Nat, k ≤ B - 1 ∧ i = .int .i64 k ∧ tv = .int .i64 ((2 ^ k : Nat) : Int)) (fun _ i => (B - 1) - (intOf i).toNat)
      case atStart => exact ⟨0, Nat.zero_le _, rfl, rfl⟩
      case round =>
        obtain ⟨k, hk, rfl, rfl⟩ := hrel
        by_cases h : k < B - 1
        · have hk2 : 2 ^ k ≤ 2305843009213693952 := Nat.le_trans (Nat.pow_le_pow_right (by decide) (show k ≤ 61 by omega)) (by decide)
          have HK : Hid (2 ^ (k + 1) = 2 * 2 ^ k) := by unfold Hid; rw [Nat.pow_succ]; omega
          have hlt : (k : Int) < (B : Int) - 1 := by omega
          generalize 2 ^ k = y at hk2 HK
          clear hp hp0 hpp hba
          go_wp2_with fail
          exact ⟨⟨k + 1, by omega, by go_num, by rw [HK.out]; go_num⟩, by simp [intOf]; omega⟩
        · obtain rfl : k = B - 1 := by omega
          have hlt : ¬ ((B - 1 : Nat) : Int) < (B : Int) - 1 := by omega
          have hF : fitB ⟨B, fv, fs⟩ = if fs then decide (-((2 ^ (B - 1) : Nat) : Int) ≤ fv ∧ fv < ((2 ^ (B - 1) : Nat) : Int)) else decide (0 ≤ fv ∧ fv < ((2 * 2 ^ (B - 1) : Nat) : Int)) := by
            unfold fitB
            dsimp only
            rw [Int.toNat_natCast, hpp]
          have HF : Hid (fitB ⟨B, fv, fs⟩ = if fs then decide (-((2 ^ (B - 1) : Nat) : Int) ≤ fv ∧ fv < ((2 ^ (B - 1) : Nat) : Int)) else decide (0 ≤ fv ∧ fv < ((2 * 2 ^ (B - 1) : Nat) : Int))) := hF
          clear hF hpp
          generalize 2 ^ (B - 1) = y at *
          cases fs with
          | true =>
            by_cases hc : -(y : Int) ≤ fv
            · have hd3 : decide (-(y : Int) ≤ fv) = true := decide_eq_true hc
              go_wp2_with fail
              go_ret
              exact ⟨ret_bool (by rw [HF.out, if_pos trivial, decide_eq_decide]; omega), hba⟩
            · have hd3 : decide (-(y : Int) ≤ fv) = false := decide_eq_false hc
              go_wp2_with fail
              go_ret
              exact ⟨ret_bool (by rw [HF.out, if_pos trivial]; exact (decide_eq_false (by omega)).symm), hba⟩
          | false =>
            by_cases hc : 0 ≤ fv
            · have hd3 : decide (0 ≤ fv) = true := decide_eq_true hc
              go_wp2_with fail
              go_ret
              exact ⟨ret_bool (by rw [HF.out, if_neg Bool.false_ne_true, decide_eq_decide]; omega), hba⟩
            · have hd3 : decide (0 ≤ fv) = false := decide_eq_false hc
              go_wp2_with fail
              go_ret
              exact ⟨ret_bool (by rw [HF.out, if_neg Bool.false_ne_true]; exact (decide_eq_false (by omega)).symm), hba⟩

theorem zero64 : bools (List.replicate 64 false) = #[.bool false, .bool false, .bool false, .bool false, .bool false, .bool false, .bool false, .bool false, .bool false, .bool false, .bool false, .bool false, .bool false, .bool false, .bool false, .bool false, .bool false, .bool false, .bool false, .bool false, .bool false, .bool false, .bool false, .bool false, .bool false, .bool false, .bool false, .bool false, .bool false, .bool false, .bool false, .bool false, .bool false, .bool false, .bool false, .bool false, .bool false, .bool false, .bool false, .bool false, .bool false, .bool false, .bool false, .bool false, .bool false, .bool false, .bool false, .bool false, .bool false, .bool false, .bool false, .bool false, .bool false, .bool false, .bool false, .bool false, .bool false, .bool false, .bool false, .bool false, .bool false, .bool false, .bool false, .bool false] := rfl

theorem Arr.far {w : World} {g : Nat} {bs : List Bool} (h : Arr w g bs) (k i : Nat) (v : Value) (hne : k ≠ g) : Arr (w.setCell ⟨k, i, none⟩ v) g bs := by
  unfold Arr
  rw [Below.heap_setCell _ _ _ _ (fun e => hne e.symm)]
  exact h

theorem bit_or_step {x y t i : Nat} (hx : x < 2 ^ t) : (bitL (x ||| y % 2 ^ i * 2 ^ t)).set (t + i) (y.testBit i) = bitL (x ||| y % 2 ^ (i + 1) * 2 ^ t) := by
  apply List.ext_getElem
  · simp [bitL]
  · intro j h1 h2
    rw [List.getElem_set]
    simp only [bitL, List.getElem_map, List.getElem_range, Nat.testBit_or, Nat.mul_comm _ (2 ^ t), Nat.testBit_two_pow_mul, Nat.testBit_mod_two_pow]
    by_cases h : t + i = j
    · subst h
      rw [if_pos rfl, Nat.testBit_lt_two_pow (Nat.lt_of_lt_of_le hx (Nat.pow_le_pow_right (by decide) (by omega)))]
      rw [show t + i - t = i by omega]
      simp
    · rw [if_neg h]
      by_cases hjt : j ≥ t
      · have e : decide (j - t < i) = decide (j - t < i + 1) := by rw [decide_eq_decide]; omega
        rw [e]
      · rw [decide_eq_false hjt]; rfl

set_option maxRecDepth 20000 in
set_option maxHeartbeats 2000000 in
theorem rpack_any (p : Option Addr) (n c : Nat) (fs : List Fld) (w : World) (hr : RdF w p n c fs) (hok : ∀ f ∈ fs, f.ok) (hn : n ≤ 1099511627776) :
    Calls Tryd.prog 9 #[.slice p n c] w fun e w' => e = .returned (pkV (packF fs)) ∧ Below w.heap.size w w' := by
  have hl := hr.len
  rw [← rp_pack]
  have hA0 : Arr (w.alloc (.cells (bools (List.replicate 64 false)) 53)) w.heap.size (bitL 0) := by
    have e : bitL 0 = List.replicate 64 false := by decide +kernel
    rw [e]
    exact heap_alloc_new _ _
  have hb0 := (Below.refl w.heap.size w).alloc (Nat.le_refl _) (.cells (bools (List.replicate 64 false)) 53)
  go_enter Tryd.func9, Tryd.ntmps9
  go_wp2_with fail
  go_loopw [5, 12] (fun tv i wr => ∃ k x t : Nat, k ≤ n ∧ t ≤ 64 ∧ x < 2 ^ t ∧ i = .int .i64 k ∧ tv = .int .i64 t ∧ Arr wr w.heap.size (bitL x) ∧ Hid (rpF 0 0 fs = rpF x t (fs.drop k)) ∧ Below w.heap.size w wr) (fun _ i _ => n - (intOf i).toNat)
  case atStart => exact ⟨0, 0, 0, Nat.zero_le _, Nat.zero_le _, by decide, rfl, rfl, hA0, rfl, hb0⟩
  case round =>
    clear hA0 hb0
    obtain ⟨k, x, t, hk, ht, hx, rfl, rfl, hA, HK, hb⟩ := hrel
    by_cases h : k < n
    · obtain ⟨b, o, rfl, hc⟩ := hr.cells (by omega)
      obtain ⟨h1, h2, h3⟩ := hc k h
      have hlt := World.block_lt_of_cell? _ _ h1
      have g1 : wr.cell? ⟨b, o + k * 3, none⟩ = some (.int .i64 (fs.getD k .z0).b) := by rw [hb.cell (p := ⟨b, o + k * 3, none⟩) hlt]; exact h1
      have g2 : wr.cell? ⟨b, o + k * 3 + 1, none⟩ = some (.int .i64 (fs.getD k .z0).v) := by rw [hb.cell (p := ⟨b, o + k * 3 + 1, none⟩) hlt]; exact h2
      have g3 : wr.cell? ⟨b, o + k * 3 + 2, none⟩ = some (.bool (fs.getD k .z0).s) := by rw [hb.cell (p := ⟨b, o + k * 3 + 2, none⟩) hlt]; exact h3
      have hmem : fs.getD k .z0 ∈ fs := by
        rw [List.getD_eq_getElem?_getD, List.getElem?_eq_getElem (by omega)]
        exact List.getElem_mem (by omega)
      have fo := hok _ hmem
      have hd := drop_fld (fs := fs) (k := k) (by omega)
      have hK2 := HK.out
      rw [hd] at hK2
      have hF := fun W => fits_any (fs.getD k .z0) W fo
      clear HK hmem hd h1 h2 h3 hlt hc hr hok
      generalize fs.getD k .z0 = f at *
      obtain ⟨fb, fv, fsg⟩ := f
      conv at hK2 => rhs; unfold rpF
      dsimp only at g1 g2 g3 hK2 hF
      have hba := hb.alloc hb.size (.cells #[.int .i64 fb, .int .i64 fv, .bool fsg] 26)
      obtain ⟨⟨o1, o2⟩, o3, o4⟩ := fo
      dsimp only at o1 o2 o3 o4
      cases hf : fitA ⟨fb, fv, fsg⟩ with
      | false =>
        have HN : Hid (rpF 0 0 fs = none) := by unfold Hid; rw [hK2, if_pos (Or.inl hf)]
        rw [hf] at hF
        clear hK2 hf hA hl
        go_wp2_with fail
        refine (hF _).mono ?_
        rintro e w2 ⟨rfl, hb2⟩
        have hbb := hba.trans (hb2.mono hba.size)
        go_wp2_with fail
        go_ret2
        exact ⟨by rw [HN.out]; rfl, hbb⟩
      | true =>
        rw [hf] at hF
        have hbb1 : 1 ≤ fb ∧ fb ≤ 64 := by
          unfold fitA at hf
          rw [Bool.and_eq_true] at hf
          exact of_decide_eq_true hf.1
        obtain ⟨B, rfl⟩ := Int.eq_ofNat_of_zero_le (show 0 ≤ fb by omega)
        by_cases hw : (64 : Int) - (t : Int) < (B : Int)
        · have HN : Hid (rpF 0 0 fs = none) := by unfold Hid; rw [hK2, if_pos (Or.inr hw)]
          clear hK2 hf hA hl
          go_wp2_with fail
          refine (hF _).mono ?_
          rintro e w2 ⟨rfl, hb2⟩
          have hbb := hba.trans (hb2.mono hba.size)
          have d0 : w2.cell? ⟨wr.heap.size, 0, none⟩ = some (.int .i64 B) := by rw [hb2.cell (p := ⟨wr.heap.size, 0, none⟩) (by simp)]; simp
          go_wp2_with fail
          go_ret2
          exact ⟨by rw [HN.out]; rfl, hbb⟩
        · have HN : Hid (rpF 0 0 fs = rpF (x ||| uw fv % 2 ^ B * 2 ^ t) (t + B) (fs.drop (k + 1))) := by
            unfold Hid; rw [hK2, hf, if_neg (by simp; omega), Int.toNat_natCast]
          have hlx := pk_lt (b := B) (v := uw fv) hx
          have hu := uw_wrap fv
          have hul := uw_lt fv
          have hA2 := hA.below ((Below.refl _ _).alloc (Nat.le_refl _) (.cells #[.int .i64 (B : Int), .int .i64 fv, .bool fsg] 26))
          have hgn : w.heap.size ≠ wr.heap.size := by have := hA.lt; omega
          clear hK2 hf hl hA
          go_wp2_with fail
          refine (hF _).mono ?_
          rintro e w2 ⟨rfl, hb2⟩
          have hbb := hba.trans (hb2.mono hba.size)
          have hA3 := hA2.below hb2
          have d0 : w2.cell? ⟨wr.heap.size, 0, none⟩ = some (.int .i64 B) := by rw [hb2.cell (p := ⟨wr.heap.size, 0, none⟩) (by simp)]; simp
          have d1 : w2.cell? ⟨wr.heap.size, 1, none⟩ = some (.int .i64 fv) := by rw [hb2.cell (p := ⟨wr.heap.size, 1, none⟩) (by simp)]; simp
          have hgw : wr.heap.size < w2.heap.size := by have := hb2.size; simp at this; omega
          have hG0 := hb.size
          clear hF g1 g2 g3 hba hA2 hb2 hb
          generalize wr.heap.size = gb at *
          go_wp2_with fail
          refine (from_any (uw fv) w2 hul).mono ?_
          rintro e w3 ⟨rfl, hb3⟩
          have hA4 := hA3.below hb3
          have hlt0 := Nat.lt_of_lt_of_le hgw hb3.size
          have d02 : w3.cell? ⟨gb, 0, none⟩ = some (.int .i64 B) := by rw [hb3.cell (p := ⟨gb, 0, none⟩) hgw]; exact d0
          have hbb3 := hbb.trans (hb3.mono hbb.size)
          have hlG : w.heap.size < w3.heap.size := hA4.lt
          clear hA3 d0 d1 hb3 hgw hbb hu
          have hiy := info_set (bitL (uw fv)) (bitL_len _)
          have hzy : (bools (List.replicate 64 false)).size = (bools (bitL (uw fv))).size := by rw [bools_size, bools_size, bitL_len]; rfl
          have hY1 : Arr (w3.alloc (.cells (bools (List.replicate 64 false)) 53)) w3.heap.size (List.replicate 64 false) := heap_alloc_new _ _
          have hY2 := hY1.setRow (bitL (uw fv))
          have hA5 : Arr ((w3.alloc (.cells (bools (List.replicate 64 false)) 53)).setRow w3.heap.size (bools (bitL (uw fv)))) w.heap.size (bitL x) := by
            have h1 := hA4.below ((Below.refl _ _).alloc (Nat.le_refl _) (.cells (bools (List.replicate 64 false)) 53))
            unfold Arr at h1 ⊢
            unfold World.setRow
            rw [Array.getElem?_modify, if_neg (by omega)]
            exact h1
          have hbt : Below w3.heap.size w3 ((w3.alloc (.cells (bools (List.replicate 64 false)) 53)).setRow w3.heap.size (bools (bitL (uw fv)))) := ((Below.refl _ _).alloc (Nat.le_refl _) _).trans (below_setRow _ _ _ (Nat.le_refl _))
          have d03 : ((w3.alloc (.cells (bools (List.replicate 64 false)) 53)).setRow w3.heap.size (bools (bitL (uw fv)))).cell? ⟨gb, 0, none⟩ = some (.int .i64 B) := by rw [hbt.cell (p := ⟨gb, 0, none⟩) hlt0]; exact d02
          have hbb4 := hbb3.trans (hbt.mono hbb3.size)
          clear hA4 d02 hbb3 hbt
          generalize hob : Obj.cells (bools (List.replicate 64 false)) 53 = ob at hY1 hY2 hA5 d03 hbb4
          rw [zero64] at hob
          subst hob
          go_wp2_with (refine wpList_store_row rfl 53 _ _ rfl w3.heap.size (bools (bitL (uw fv))) rfl rfl _ _ hY1 hiy hzy (bools_one _) ?_)
          clear hY1
          generalize (w3.alloc _).setRow w3.heap.size (bools (bitL (uw fv))) = W4 at hY2 hA5 d03 hbb4 ⊢
          generalize w3.heap.size = gv at *
          generalize uw fv = y at *
          clear hiy hzy
          go_loopw [32] (fun i wq => ∃ j : Nat, j ≤ B ∧ i = .int .i64 j ∧ Arr wq w.heap.size (bitL (x ||| y % 2 ^ j * 2 ^ t)) ∧ Arr wq gv (bitL y) ∧ wq.cell? ⟨gb, 0, none⟩ = some (.int .i64 B) ∧ Below w.heap.size w wq) (fun i _ => B - (intOf i).toNat)
          case atStart => exact ⟨0, Nat.zero_le _, rfl, by rw [Nat.pow_zero, Nat.mod_one, Nat.zero_mul, Nat.or_zero]; exact hA5, hY2, d03, hbb4⟩
          case round =>
            clear hA5 hY2 d03 hbb4
            obtain ⟨j, hj, rfl, hS, hY, hd, hbq⟩ := hrel
            by_cases hjB : j < B
            · have hcy := hY.cell (i := j) (by rw [bitL_len]; omega)
              rw [bitL_get y (by omega)] at hcy
              have hcs := hS.cell (i := t + j) (by rw [bitL_len]; omega)
              have hfs := hS.free (t + j)
              have hS2 := hS.set (t + j) (y.testBit j)
              rw [bit_or_step hx] at hS2
              have hY3 := hY.far w.heap.size (t + j) (.bool (y.testBit j)) (by omega)
              have hd2 : (wr.setCell ⟨w.heap.size, t + j, none⟩ (.bool (y.testBit j))).cell? ⟨gb, 0, none⟩ = some (.int .i64 B) := by
                rw [World.cell?_setCell_other (h := fun e => hgn (congrArg Addr.block e))]; exact hd
              have hb5 := hbq.setCell (p := ⟨w.heap.size, t + j, none⟩) (Nat.le_refl w.heap.size) (.bool (y.testBit j))
              have hjB1 : (j : Int) < (B : Int) := by omega
              have ht64 : (t : Int) + (j : Int) < 64 := by omega
              clear hS hY hd hbq
              generalize y.testBit j = yb at *
              generalize (bitL (x ||| y % 2 ^ j * 2 ^ t)).getD (t + j) false = ob at hcs
              go_wp2_with fail
              generalize wr.setCell ⟨w.heap.size, t + j, none⟩ (.bool yb) = W5 at hS2 hY3 hd2 hb5 ⊢
              go_roundw
              case rel => exact ⟨j + 1, by omega, by go_num, hS2, hY3, hd2, hb5⟩
              case measure => simp [intOf]; omega
            · obtain rfl : j = B := by omega
              have hjB1 : ¬ (j : Int) < (j : Int) := by omega
              go_wp2_with fail
              go_roundw
              case rel => exact ⟨k + 1, _, t + j, by omega, by omega, hlx, by go_num, by go_num, hS, HN, hbq⟩
              case measure => simp [intOf]; omega
    · obtain rfl : k = n := by omega
      have hd : fs.drop k = [] := List.drop_of_length_le (by omega)
      have HN : Hid (rpF 0 0 fs = some x) := by unfold Hid; rw [HK.out, hd]; rfl
      have hiA := info_set (bitL x) (bitL_len _)
      have hxl : x < 18446744073709551616 := Nat.lt_of_lt_of_le hx (pow_le64 ht)
      have cW := fun W => word_any (bitL x) W (bitL_len _)
      rw [word_bits x hxl] at cW
      clear HK hd hr hl
      go_wp2_with (refine wpList_load_row rfl 53 _ rfl w.heap.size rfl _ _ _ _ hA Tryd.underlying53 rfl hiA ?_)
      refine (cW _).mono ?_
      rintro e w2 ⟨rfl, hb2⟩
      have hbb := hb.trans (hb2.mono hb.size)
      go_wp2_with fail
      go_ret2
      exact ⟨by rw [HN.out]; rfl, hbb⟩

end Go.Proofs.YtddekakihandeaaDoor.M
