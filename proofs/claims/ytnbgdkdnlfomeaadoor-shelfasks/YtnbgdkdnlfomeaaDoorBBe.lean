/-
  Own text: records behind an index.
-/
import Derived.Test.YtnbgdkdnlfomeaaDoorBCl
namespace Go.Proofs.YtnbgdkdnlfomeaaDoor.M
open Go.ChangeShapes Go.WideShapes Go.ChangeAt Go.RowKit Go.ChangeMaps Go.MapKept Go.Maps Go.Shelf Go.Proofs
set_option linter.unusedSimpArgs false

/-- An index that is one of the shelf's. -/
def Sh.isAt (s : Sh) (i : Int) : Prop := s.low.ix ≤ i ∧ i ≤ s.last
/-- Its records behind an index, at most m. -/
def Sh.beh (s : Sh) (i m : Int) : List Rc := (s.tail.drop (i - s.low.ix).toNat).take m.toNat

theorem OwG.ptr {T : Type} {S : Shp T} {e : TypeId} {w : World} {B : Nat} {p : Option Addr} {n c : Nat} {fs : List T} (h : OwG S e w B p n c fs) : (n = 0 ∧ c = 0) ∨ ∃ g, p = some ⟨g, 0, Option.none⟩ := by
  rcases h.own with h2 | ho2
  · exact Or.inl h2
  · rcases ho2.2 with ⟨hv, _⟩ | ⟨g, cap, cur, hv, _⟩
    · injection hv with e1 e2 e3
      exact Or.inl ⟨e2, e3⟩
    · injection hv with e1 e2 e3
      exact Or.inr ⟨g, e1⟩

set_option maxRecDepth 20000 in
set_option maxHeartbeats 1000000 in
theorem behind_out {w : World} {g b : Nat} {p : Option Addr} {n c : Nat} {s : Sh} (h : ShB w g b p n c s) (i m : Int) (hi : ¬ s.isAt i) :
    Calls Tryd.prog 16 #[.pointer (some ⟨g, 0, none⟩), .int .i64 i, .int .i64 m] w fun e w' => e = .returned (.tuple #[.slice none 0 0, .bool false]) ∧ Below w.heap.size w w' := by
  have hm := h.made
  have hL := last_any h
  obtain ⟨⟨c0, _⟩, _⟩ := h.cells
  unfold Sh.isAt at hi
  generalize s.last = y at *
  generalize s.low.ix = x at *
  by_cases h1 : i < x
  · go_enter Tryd.func16, Tryd.ntmps16
    go_wp2_with fail
    refine hm.mono ?_
    rintro e w1 ⟨rfl, rfl⟩
    clear hm
    go_wp2_with fail
    exact bodyPost_ret (v := .tuple #[.slice none 0 0, .bool false]) (by simp [results, Tryd.results16, go_sem]) rfl ⟨rfl, Below.refl _ _⟩
  · have h2 : y < i := by omega
    go_enter Tryd.func16, Tryd.ntmps16
    go_wp2_with fail
    refine hm.mono ?_
    rintro e w1 ⟨rfl, rfl⟩
    clear hm
    go_wp2_with fail
    refine hL.mono ?_
    rintro e w2 ⟨rfl, hb⟩
    clear hL
    go_wp2_with fail
    exact bodyPost_ret (v := .tuple #[.slice none 0 0, .bool false]) (by simp [results, Tryd.results16, go_sem]) rfl ⟨rfl, hb⟩

set_option maxRecDepth 20000 in
set_option maxHeartbeats 1000000 in
theorem behind_in {w : World} {g b : Nat} {p : Option Addr} {n c : Nat} {s : Sh} (h : ShB w g b p n c s) (i m : Int) (hi : s.isAt i) :
    Calls Tryd.prog 16 #[.pointer (some ⟨g, 0, none⟩), .int .i64 i, .int .i64 m] w fun e w' => ∃ p' c', e = .returned (.tuple #[.slice p' (s.beh i m).length c', .bool true]) ∧ OwG recS 64 w' w.heap.size p' (s.beh i m).length c' (s.beh i m) ∧ Below w.heap.size w w' := by
  have hm := h.made
  have hL := last_any h
  obtain ⟨⟨c0, _⟩, _⟩ := h.cells
  obtain ⟨h1, h2⟩ := hi
  have hln := h.len
  have hfw := h.inv.few
  have hcap := h.tl.rd.cap
  have hix0 := h.inv.ix0
  have hix1 := h.inv.ix1
  have hyl : s.last = s.low.ix + (s.tail.length : Nat) := rfl
  obtain ⟨k, hk⟩ : ∃ k : Nat, (i - s.low.ix) = (k : Int) := ⟨(i - s.low.ix).toNat, by omega⟩
  have hkn : k ≤ n := by omega
  have hbe : s.beh i m = (s.tail.drop k).take m.toNat := by unfold Sh.beh; rw [hk]; rfl
  rw [hbe]
  have HW2 : True := trivial
  have HW : Hid (IntKind.i64.wrap (i - s.low.ix) = (k : Int)) := by unfold Hid; rw [hk, IntKind.wrap_i64]; omega
  have hkc : (k : Int) ≤ (n : Int) := by omega
  have hptr := h.tl.ptr
  have hrd := h.tl.rd
  have HM : Hid (((s.tail.drop k).take m.toNat).length = (min (max m 0) ((n - k : Nat) : Int)).toNat) := by
    unfold Hid
    rw [List.length_take, List.length_drop, hln]
    omega
  generalize s.tail = l at *
  generalize hxe : s.low.ix = x at *
  generalize s.last = y at *
  have h1n : ¬ i < x := by omega
  have h2n : ¬ y < i := by omega
  go_enter Tryd.func16, Tryd.ntmps16
  go_wp2_with fail
  refine hm.mono ?_
  rintro e w1 ⟨rfl, rfl⟩
  clear hm
  go_wp2_with fail
  refine hL.mono ?_
  rintro e w2 ⟨rfl, hb⟩
  have hSh := h.below hb
  clear hL
  go_wp2_with fail
  obtain ⟨⟨e0, _⟩, e15, _⟩ := hSh.cells
  rw [hxe] at e0
  replace hrd := hrd.below hb
  clear hSh h c0 hbe hk hyl hix0 hix1 hxe HW2
  have fin : ∀ (W : World) (q : Option Addr) (M C : Nat) (ls : List Rc), RdG recS W q M C ls → M ≤ 1000 → Below w1.heap.size w1 W → Calls Tryd.prog 50 #[.slice q M C] W fun e w' => ∃ p' c', e = .returned (.slice p' M c') ∧ OwG recS 64 w' w1.heap.size p' M c' ls ∧ Below w1.heap.size w1 w' :=
    fun W q M C ls hr hM hB => (rclone_any hr hM).mono fun e w' ⟨p', c', h1, h2, h3, _⟩ => ⟨p', c', h1, h2.lower hB.size, hB.trans (h3.mono hB.size)⟩
  rcases hptr with ⟨hn0, hc0⟩ | ⟨ab, rfl⟩
  · subst hn0
    subst hc0
    obtain rfl : k = 0 := by omega
    obtain rfl : l = [] := List.length_eq_zero_iff.1 hln
    cases p with
    | none =>
      have k0 := cell_regrown e0
      have k1 := cell_regrown e15
      have hw := HW.out
      refine wp_region_quiet_below (by kernel_rfl) (by kernel_rfl) ?_
      repeat (with_reducible refine wpQuiet_step (fun K hK => ?_); go_simp; first | (with_reducible refine hK _ ?_; clear hK K) | (rw [if_neg (by decide)]; with_reducible refine hK _ ?_; clear hK K))
      with_reducible refine wpQuiet_nil ?_
      intro _ hw'
      obtain ⟨⟨dq, osq⟩, hw''⟩ := hw'
      subst hw''
      have hb1 := below_regrown w2 dq osq
      have hb2 := hb.trans (hb1.mono hb.size)
      have hrg := hrd.below hb1
      clear hb1 k0 k1 hb e0 e15
      go_wp2_with fail
      have hz : (min (max m 0) (0 : Int)).toNat = 0 := by omega
      have hl0 : ((([] : List Rc).drop 0).take m.toNat) = [] := by simp
      rw [hz]
      refine (fin _ _ 0 0 [] ⟨rfl, Nat.le_refl _, fun _ => rfl, fun h => absurd h (Nat.lt_irrefl _)⟩ (by omega) hb2).mono ?_
      rintro e w9 ⟨p9, c9, rfl, ho, hb9⟩
      clear fin hrg hb2 hrd
      go_wp2_with fail
      refine bodyPost_ret (v := .tuple #[.slice p9 0 c9, .bool true]) (by simp [results, Tryd.results16, go_sem]) rfl ⟨p9, c9, ?_, ?_, hb9⟩
      · rw [hl0]; rfl
      · rw [hl0]; exact ho
    | some ad =>
      have k0 := cell_regrown e0
      have k1 := cell_regrown e15
      have hw := HW.out
      refine wp_region_quiet_below (by kernel_rfl) (by kernel_rfl) ?_
      repeat (with_reducible refine wpQuiet_step (fun K hK => ?_); go_simp; first | (with_reducible refine hK _ ?_; clear hK K) | (rw [if_neg (by decide)]; with_reducible refine hK _ ?_; clear hK K))
      with_reducible refine wpQuiet_nil ?_
      intro _ hw'
      obtain ⟨⟨dq, osq⟩, hw''⟩ := hw'
      subst hw''
      have hb1 := below_regrown w2 dq osq
      have hb2 := hb.trans (hb1.mono hb.size)
      have hrg := hrd.below hb1
      clear hb1 k0 k1 hb e0 e15
      go_wp2_with fail
      have hz : (min (max m 0) (0 : Int)).toNat = 0 := by omega
      have hl0 : ((([] : List Rc).drop 0).take m.toNat) = [] := by simp
      rw [hz]
      refine (fin _ _ 0 0 [] ⟨rfl, Nat.le_refl _, fun _ => rfl, fun h => absurd h (Nat.lt_irrefl _)⟩ (by omega) hb2).mono ?_
      rintro e w9 ⟨p9, c9, rfl, ho, hb9⟩
      clear fin hrg hb2 hrd
      go_wp2_with fail
      refine bodyPost_ret (v := .tuple #[.slice p9 0 c9, .bool true]) (by simp [results, Tryd.results16, go_sem]) rfl ⟨p9, c9, ?_, ?_, hb9⟩
      · rw [hl0]; rfl
      · rw [hl0]; exact ho
  · by_cases hck : c = k
    · subst hck
      obtain rfl : n = c := by omega
      have k0 := cell_regrown e0
      have k1 := cell_regrown e15
      have hw := HW.out
      refine wp_region_quiet_below (by kernel_rfl) (by kernel_rfl) ?_
      repeat (with_reducible refine wpQuiet_step (fun K hK => ?_); go_simp; first | (with_reducible refine hK _ ?_; clear hK K) | (rw [if_neg (by decide)]; with_reducible refine hK _ ?_; clear hK K))
      with_reducible refine wpQuiet_nil ?_
      intro _ hw'
      obtain ⟨⟨dq, osq⟩, hw''⟩ := hw'
      subst hw''
      have hb1 := below_regrown w2 dq osq
      have hb2 := hb.trans (hb1.mono hb.size)
      have hrg := hrd.below hb1
      clear hb1 k0 k1 hb e0 e15
      go_wp2_with fail
      have hz : (min (max m 0) (0 : Int)).toNat = 0 := by omega
      have hl0 : ((l.drop n).take m.toNat) = [] := by rw [List.drop_of_length_le (by omega)]; simp
      rw [hz]
      refine (fin _ _ 0 0 [] ⟨rfl, Nat.le_refl _, fun _ => rfl, fun h => absurd h (Nat.lt_irrefl _)⟩ (by omega) hb2).mono ?_
      rintro e w9 ⟨p9, c9, rfl, ho, hb9⟩
      clear fin hrg hb2 hrd
      go_wp2_with fail
      refine bodyPost_ret (v := .tuple #[.slice p9 0 c9, .bool true]) (by simp [results, Tryd.results16, go_sem]) rfl ⟨p9, c9, ?_, ?_, hb9⟩
      · rw [hl0]; rfl
      · rw [hl0]; exact ho
    · have hkc2 : ¬ c ≤ k := by omega
      have k0 := cell_regrown e0
      have k1 := cell_regrown e15
      have hw := HW.out
      refine wp_region_quiet_below (by kernel_rfl) (by kernel_rfl) ?_
      repeat (with_reducible refine wpQuiet_step (fun K hK => ?_); go_simp; first | (with_reducible refine hK _ ?_; clear hK K) | (rw [if_neg (by decide)]; with_reducible refine hK _ ?_; clear hK K))
      with_reducible refine wpQuiet_nil ?_
      intro _ hw'
      obtain ⟨⟨dq, osq⟩, hw''⟩ := hw'
      subst hw''
      have hb1 := below_regrown w2 dq osq
      have hb2 := hb.trans (hb1.mono hb.size)
      have hrg := hrd.below hb1
      clear hb1 k0 k1 hb e0 e15
      go_wp2_with fail
      have hkk : (min (max m 0) ((n - k : Nat) : Int)).toNat ≤ n - k := by omega
      have hr : RdG recS (Sort.grow (redrawn w2 dq) osq) (some ⟨ab, k * 14, none⟩) (min (max m 0) ((n - k : Nat) : Int)).toNat (c - k) ((l.drop k).take (min (max m 0) ((n - k : Nat) : Int)).toNat) := by
        have h := RdG.back hrg hkn
        rw [Nat.zero_add] at h
        exact h.front hkk
      have htk : (l.drop k).take (min (max m 0) ((n - k : Nat) : Int)).toNat = (l.drop k).take m.toNat := by
        have hlen : (l.drop k).length = n - k := by rw [List.length_drop, hln]
        rcases Nat.lt_or_ge m.toNat (n - k) with h | h
        · rw [show (min (max m 0) ((n - k : Nat) : Int)).toNat = m.toNat by omega]
        · rw [List.take_of_length_le (by omega), List.take_of_length_le (by omega)]
      rw [htk] at hr
      refine (fin _ _ _ _ _ hr (by omega) hb2).mono ?_
      rintro e w9 ⟨p9, c9, rfl, ho, hb9⟩
      rw [← HM.out] at ho ⊢
      clear fin hr htk hkk hrg hb2 hrd
      go_wp2_with fail
      exact bodyPost_ret (v := .tuple #[.slice p9 _ c9, .bool true]) (by simp [results, Tryd.results16, go_sem, hln]) rfl ⟨p9, c9, rfl, ho, hb9⟩
end Go.Proofs.YtnbgdkdnlfomeaaDoor.M
