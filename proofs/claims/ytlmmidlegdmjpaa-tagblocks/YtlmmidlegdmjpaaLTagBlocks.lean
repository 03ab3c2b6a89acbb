/-
  Own text: the walk of the law TagBlocks.
-/
import Derived.Test.YtlmmidlegdmjpaaGAwake
import Derived.Test.YtlmmidlegdmjpaaGHold
import Derived.Test.YtlmmidlegdmjpaaOpenA
import Derived.Deep.CutRange
namespace Go.Proofs.Ytlmmidlegdmjpaa.M
open Go.ChangeShapes Go.WideShapes Go.ChangeAt Go.RowKit

theorem uint16 (n : Int) : (IntKind.u64.wrap n).tmod 16 = ((n % 16).toNat : Int) := by
  rw [IntKind.wrap_u64, Int.tmod_eq_emod_of_nonneg (by omega)]
  omega

theorem five_hold (w : World) (kl dl : List Int) : Hold w [(25, .u8, w.heap.size, kl), (25, .u8, w.heap.size + 1, dl), (35, .u32, w.heap.size + 1 + 1, [0, 0, 0, 0]), (35, .u32, w.heap.size + 1 + 1 + 1, [0, 0, 0, 0]), (35, .u32, w.heap.size + 1 + 1 + 1 + 1, [0, 0, 0, 0])] (((((w.alloc (.cells (nums .u8 kl) 25)).alloc (.cells (nums .u8 dl) 25)).alloc (.cells #[.int .u32 0, .int .u32 0, .int .u32 0, .int .u32 0] 35)).alloc (.cells #[.int .u32 0, .int .u32 0, .int .u32 0, .int .u32 0] 35)).alloc (.cells #[.int .u32 0, .int .u32 0, .int .u32 0, .int .u32 0] 35)) := by
  have h0 : Hold w [] w := Hold.nil (Below.refl _ _)
  have h1 := h0.new 25 .u8 kl
  have h2 := h1.new 25 .u8 dl
  rw [show (w.alloc (.cells (nums .u8 kl) 25)).heap.size = w.heap.size + 1 by simp] at h2
  have h3 := h2.new 35 .u32 [0, 0, 0, 0]
  rw [show ((w.alloc (.cells (nums .u8 kl) 25)).alloc (.cells (nums .u8 dl) 25)).heap.size = w.heap.size + 1 + 1 by simp] at h3
  have h4 := h3.new 35 .u32 [0, 0, 0, 0]
  rw [show (((w.alloc (.cells (nums .u8 kl) 25)).alloc (.cells (nums .u8 dl) 25)).alloc (.cells (nums .u32 [0, 0, 0, 0]) 35)).heap.size = w.heap.size + 1 + 1 + 1 by simp] at h4
  have h5 := h4.new 35 .u32 [0, 0, 0, 0]
  rw [show ((((w.alloc (.cells (nums .u8 kl) 25)).alloc (.cells (nums .u8 dl) 25)).alloc (.cells (nums .u32 [0, 0, 0, 0]) 35)).alloc (.cells (nums .u32 [0, 0, 0, 0]) 35)).heap.size = w.heap.size + 1 + 1 + 1 + 1 by simp] at h5
  refine h5.sub fun a ha => ?_
  simp only [List.mem_cons, List.not_mem_nil, or_false] at ha ⊢
  rcases ha with rfl | rfl | rfl | rfl | rfl
  · exact Or.inr (Or.inr (Or.inr (Or.inr rfl)))
  · exact Or.inr (Or.inr (Or.inr (Or.inl rfl)))
  · exact Or.inr (Or.inr (Or.inl rfl))
  · exact Or.inr (Or.inl rfl)
  · exact Or.inl rfl

theorem five_apart (x : Nat) (kl dl a b c : List Int) : (places [(25, .u8, x, kl), (25, .u8, x + 1, dl), (35, .u32, x + 1 + 1, a), (35, .u32, x + 1 + 1 + 1, b), (35, .u32, x + 1 + 1 + 1 + 1, c)]).Nodup := by
  simp only [places, List.map_cons, List.map_nil, List.nodup_cons, List.mem_cons, List.not_mem_nil, or_false, not_or, List.nodup_nil, not_false_eq_true, and_true]
  omega

theorem wpart_congr {l l' : List Int} {k : Nat} (h : ∀ i, i < k → l.getD i 0 = l'.getD i 0) (j : Nat) : wpart l k j = wpart l' k j := by
  unfold wpart
  have t : ∀ i, (if i < k then (l.getD i 0).toNat else 0) = (if i < k then (l'.getD i 0).toNat else 0) := fun i => by
    by_cases hi : i < k
    · rw [if_pos hi, if_pos hi, h i hi]
    · rw [if_neg hi, if_neg hi]
  have t2 : ∀ c i, (if i < k then c * (l.getD i 0).toNat else 0) = (if i < k then c * (l'.getD i 0).toNat else 0) := fun c i => by
    by_cases hi : i < k
    · rw [if_pos hi, if_pos hi, h i hi]
    · rw [if_neg hi, if_neg hi]
  rw [t, t2, t2, t2]

theorem wpart_rest {l : List Int} {k : Nat} (h : ∀ i, k ≤ i → l.getD i 0 = 0) (j : Nat) (hj : j < 4) : wpart l k j = wpart l 16 j := by
  unfold wpart
  have t : ∀ i, i < 16 → (if i < k then (l.getD i 0).toNat else 0) = (if i < 16 then (l.getD i 0).toNat else 0) := fun i h16 => by
    rw [if_pos h16]
    by_cases hi : i < k
    · rw [if_pos hi]
    · rw [if_neg hi, h i (by omega)]; rfl
  have t2 : ∀ c i, i < 16 → (if i < k then c * (l.getD i 0).toNat else 0) = (if i < 16 then c * (l.getD i 0).toNat else 0) := fun c i h16 => by
    rw [if_pos h16]
    by_cases hi : i < k
    · rw [if_pos hi]
    · rw [if_neg hi, h i (by omega)]; rfl
  rw [t _ (by omega), t2 _ _ (by omega), t2 _ _ (by omega), t2 _ _ (by omega)]

theorem fill_get {dl : List Int} {n : Nat} (hd : dl.length = 16) (hn : n < 16) (i : Nat) : (fillL (dl.take n)).getD i 0 = if i < n then dl.getD i 0 else if i = n then 1 else 0 := by
  have hl : (dl.take n).length = n := by rw [List.length_take]; omega
  unfold fillL
  rw [if_pos (by omega), hl]
  simp only [List.getD_eq_getElem?_getD, List.append_assoc]
  by_cases h1 : i < n
  · rw [if_pos h1, List.getElem?_append_left (by omega), List.getElem?_take, if_pos h1]
  · rw [if_neg h1, List.getElem?_append_right (by omega), hl]
    by_cases h2 : i = n
    · rw [if_pos h2, h2, Nat.sub_self]
      rfl
    · rw [if_neg h2, List.getElem?_append_right (by simp; omega), List.getElem?_replicate]
      split <;> rfl

theorem fill_words {dl : List Int} {n : Nat} (hd : dl.length = 16) (hb : Byt dl) (hn : n < 16) :
    bits .or .u32 ((wpart dl n (n / 4) : Nat) : Int) (IntKind.u32.wrap (1 * 2 ^ (n % 4 * 8))) = ((wpart (fillL (dl.take n)) (n + 1) (n / 4) : Nat) : Int) ∧
    (wrL dl n).set (n / 4) ((wpart (fillL (dl.take n)) (n + 1) (n / 4) : Nat) : Int) = qI (qW (fillL (dl.take n))) := by
  have hg := fill_get hd hn
  have hbf : Byt (fillL (dl.take n)) := fill_by (fun x hx => hb x (List.mem_of_mem_take hx))
  have e1 : ∀ j, wpart dl n j = wpart (fillL (dl.take n)) n j := wpart_congr fun i hi => by rw [hg, if_pos hi]
  have e2 : wrL dl n = wrL (fillL (dl.take n)) n := by unfold wrL; simp only [e1]
  have h1 := wpart_step hbf n
  rw [hg n, if_neg (by omega), if_pos rfl] at h1
  refine ⟨by rw [e1]; exact h1, ?_⟩
  rw [e2, wrL_set, ← wrL_end]
  unfold wrL
  apply List.map_congr_left
  intro j hj
  rw [wpart_rest (k := n + 1) (fun i hi => by rw [hg, if_neg (by omega), if_neg (by omega)]) j (by simpa using hj)]

theorem digest_full {kl dl : List Int} (hd : dl.length = 16) : digest kl dl = qB (xr (stirN 12 (xr (xr (qW kl) (qW dl)) (dbl (qW kl)))) (dbl (qW kl))) := by
  unfold digest
  have e : ahead 16 = 0 := rfl
  rw [hd, e]
  have e2 : dl.drop (16 * 0) = dl := rfl
  rw [e2]
  have f1 : fillL dl = dl := by unfold fillL; rw [if_neg (by omega)]
  have f2 : endW (qW kl) dl = dbl (qW kl) := by unfold endW; rw [if_neg (by omega)]
  dsimp only
  rw [f1, f2]
  rfl

theorem digest_part {kl dl : List Int} {n : Nat} (hd : dl.length = 16) (hn : n < 16) : digest kl (dl.take n) = qB (xr (stirN 12 (xr (xr (qW kl) (qW (fillL (dl.take n)))) (dbl (dbl (qW kl))))) (dbl (dbl (qW kl)))) := by
  have hl : (dl.take n).length = n := by rw [List.length_take]; omega
  unfold digest
  have e : ahead n = 0 := by unfold ahead; omega
  rw [hl, e]
  have e2 : (dl.take n).drop (16 * 0) = dl.take n := rfl
  rw [e2]
  have f2 : endW (qW kl) (dl.take n) = dbl (dbl (qW kl)) := by unfold endW; rw [if_pos (by omega)]
  dsimp only
  rw [f2]
  rfl

theorem xr_assoc (a b c : Nat × Nat × Nat × Nat) : xr a (xr b c) = xr (xr a b) c := by
  unfold xr
  simp only [Nat.xor_assoc]

theorem ArrI.rdAll {t : TypeId} {k : IntKind} {w : World} {g : Nat} {xs : List Int} (h : ArrI t k w g xs) (m : Nat) (hm : m ≤ xs.length) (c : Nat) (hc : m ≤ c) : Rd k w (some ⟨g, 0, none⟩) m c (xs.take m) := by
  refine ⟨by rw [List.length_take]; omega, hc, (fun h => by cases h), fun _ => ⟨g, 0, rfl, fun i hi => ?_⟩⟩
  rw [Nat.zero_add, h.cell (i := i) (by omega), List.getD_eq_getElem?_getD, List.getD_eq_getElem?_getD, List.getElem?_take, if_pos hi]

theorem swap_mem {α : Type} {x y a : α} {l : List α} (h : a ∈ x :: y :: l) : a ∈ y :: x :: l := by
  simp only [List.mem_cons] at h ⊢
  rcases h with h | h | h
  · exact Or.inr (Or.inl h)
  · exact Or.inl h
  · exact Or.inr (Or.inr h)

theorem swap_nodup {x y : TypeId × IntKind × Nat × List Int} {x' y' : TypeId × IntKind × Nat × List Int} {l : List (TypeId × IntKind × Nat × List Int)} (h : (places (x :: y :: l)).Nodup) (hx : x'.2.2.1 = x.2.2.1 := by rfl) (hy : y'.2.2.1 = y.2.2.1 := by rfl) : (places (y' :: x' :: l)).Nodup := by
  simp only [places, List.map_cons, List.nodup_cons, List.mem_cons, not_or] at h ⊢
  rw [hx, hy]
  exact ⟨⟨fun e => h.1.1 e.symm, h.2.1⟩, h.1.2, h.2.2⟩

theorem qI_xr (s t : Nat × Nat × Nat × Nat) : ∀ k, k < 4 → (qI (xr s t)).getD k 0 = ((((qI s).getD k 0).toNat ^^^ ((qI t).getD k 0).toNat : Nat) : Int)
  | 0, _ => rfl
  | 1, _ => rfl
  | 2, _ => rfl
  | 3, _ => rfl

theorem pick_mem {α : Type} {a b c d e f u v x y z m : α} (h : m ∈ [a, b, c, d, e, f, y, z]) : m ∈ a :: b :: c :: d :: e :: f :: [u, v, x, y, z] := by
  simp only [List.mem_cons, List.not_mem_nil, or_false] at h ⊢
  rcases h with h | h | h | h | h | h | h | h <;> simp only [h, true_or, or_true]

theorem pick_nodup {a b c d e f u v x y z : TypeId × IntKind × Nat × List Int} {a' b' c' d' e' f' y' z' : TypeId × IntKind × Nat × List Int} (h : (places (a :: b :: c :: d :: e :: f :: [u, v, x, y, z])).Nodup) (ha : a'.2.2.1 = a.2.2.1 := by rfl) (hb : b'.2.2.1 = b.2.2.1 := by rfl) (hc : c'.2.2.1 = c.2.2.1 := by rfl) (hd : d'.2.2.1 = d.2.2.1 := by rfl) (he : e'.2.2.1 = e.2.2.1 := by rfl) (hf : f'.2.2.1 = f.2.2.1 := by rfl) (hy : y'.2.2.1 = y.2.2.1 := by rfl) (hz : z'.2.2.1 = z.2.2.1 := by rfl) : (places [a', b', c', d', e', f', y', z']).Nodup := by
  simp only [places, List.map_cons, List.map_nil, List.nodup_cons, List.mem_cons, List.not_mem_nil, or_false, not_or, List.nodup_nil, not_false_eq_true, and_true] at h ⊢
  rw [ha, hb, hc, hd, he, hf, hy, hz]
  simp only [h, not_false_eq_true, and_self]

theorem Hold.newN {w : World} {l : List (TypeId × IntKind × Nat × List Int)} {W : World} (h : Hold w l W) (hn : (places l).Nodup) (t : TypeId) (k : IntKind) (xs : List Int) : (places ((t, k, W.heap.size, xs) :: l)).Nodup := by
  refine List.nodup_cons.2 ⟨fun hm => ?_, hn⟩
  exact Nat.lt_irrefl _ (h.lt _ hm)

set_option maxRecDepth 20000 in
set_option linter.unusedSimpArgs false in
set_option maxHeartbeats 10000000 in
theorem blocks_core (w : World) (kl dl : List Int) (hkl : kl.length = 16) (hdl : dl.length = 16) (hkb : Byt kl) (hdb : Byt dl) (n0 : Int) :
    Calls Try.prog 5 #[.agg (nums .u8 kl), .agg (nums .u8 dl), .int .i64 n0] w fun e w' => e = .returned (.bool true) ∧ Below w.heap.size w w' := by
  have hn16 := uint16 n0
  have hnl : (n0 % 16).toNat < 16 := by omega
  generalize (n0 % 16).toNat = n at hn16 hnl
  have hH0 := five_hold w kl dl
  go_enter Try.func5, Try.ntmps5
  go_wp2_with fail
  clear hn16
  generalize ((((w.alloc _).alloc _).alloc _).alloc _).alloc _ = W0 at hH0 ⊢
  go_loopw [28] (fun i wr => ∃ k : Nat, k ≤ 16 ∧ i = .int .i64 k ∧ Hold w [(25, .u8, w.heap.size, kl), (25, .u8, w.heap.size + 1, dl), (35, .u32, w.heap.size + 1 + 1, wrL kl k), (35, .u32, w.heap.size + 1 + 1 + 1, wrL dl k), (35, .u32, w.heap.size + 1 + 1 + 1 + 1, wrL dl (min k n))] wr) (fun i _ => 16 - (intOf i).toNat)
  case atStart => exact ⟨0, by omega, rfl, by rw [Nat.zero_min, wrL_zero, wrL_zero]; exact hH0⟩
  case round =>
    clear hH0
    obtain ⟨k, hk, rfl, hH⟩ := hrel
    by_cases h : k < 16
    · obtain ⟨q, hq⟩ : ∃ q : Nat, q = k / 4 := ⟨_, rfl⟩
      obtain ⟨r, hr⟩ : ∃ r : Nat, r = k % 4 * 8 := ⟨_, rfl⟩
      have hq1 : (k : Int) / 4 = (q : Int) := by omega
      have hr1 : 8 * ((k : Int) % 4) = (r : Int) := by omega
      have hq2 : (q : Int) < 4 := by omega
      have hr2 : r < 32 := by omega
      have hk16 : (k : Int) < 16 := by omega
      have HQ : Hid (q = k / 4) := hq
      have HR : Hid (r = k % 4 * 8) := hr
      clear hq hr
      by_cases hkn : k < n
      · have hkn1 : (k : Int) < (n : Int) := by omega
        have hmk : min k n = k := by omega
        have HM : Hid (min (k + 1) n = k + 1) := by unfold Hid; omega
        rw [hmk] at hH
        clear hmk
        have hst1 := wpart_step hkb k
        have hc1 := (hH.at 2 rfl).cell (i := k / 4) (by rw [wrL_len]; omega)
        rw [wrL_get _ _ _ (by omega)] at hc1
        have hx1 := (hH.at 0 rfl).cell (i := k) (by rw [hkl]; exact h)
        have hf1 := (hH.at 2 rfl).free (k / 4)
        have hT1 := hH.set (five_apart _ _ _ _ _ _) 2 rfl (by omega) (k / 4) (wpart kl (k + 1) (k / 4) : Nat)
        rw [wrL_set] at hT1
        have hS1 : Hold w [(25, .u8, w.heap.size, kl), (25, .u8, w.heap.size + 1, dl), (35, .u32, w.heap.size + 1 + 1, wrL kl (k + 1)), (35, .u32, w.heap.size + 1 + 1 + 1, wrL dl k), (35, .u32, w.heap.size + 1 + 1 + 1 + 1, wrL dl (k))] _ := hT1.drew
        clear hT1
        have hby1 := hkb.get k
        have hp1 := wpart_lt hkb k (k / 4)
        obtain ⟨x1, ex1⟩ : ∃ x : Nat, kl.getD k 0 = (x : Int) := ⟨(kl.getD k 0).toNat, by omega⟩
        rw [ex1] at hst1 hby1 hx1
        rw [← HR.out, IntKind.wrap_u32'] at hst1
        rw [← HQ.out] at hst1 hc1 hf1 hp1 hS1
        generalize wpart kl (k + 1) q = z1 at hst1 hS1
        generalize wpart kl k q = y1 at hst1 hc1 hp1
        clear ex1
        clear hH
        go_wp2_with fail
        apply wp_meet
        · go_region
          all_goals exact Meet.mk
        generalize (wr.setCell ⟨w.heap.size + 1 + 1, q, none⟩ (.int .u32 (z1 : Int))).drew = W1 at hS1 ⊢
        clear hst1 hc1 hx1 hf1 hby1 hp1
        have hst2 := wpart_step hdb k
        have hc2 := (hS1.at 3 rfl).cell (i := k / 4) (by rw [wrL_len]; omega)
        rw [wrL_get _ _ _ (by omega)] at hc2
        have hx2 := (hS1.at 1 rfl).cell (i := k) (by rw [hdl]; exact h)
        have hf2 := (hS1.at 3 rfl).free (k / 4)
        have hT2 := hS1.set (five_apart _ _ _ _ _ _) 3 rfl (by omega) (k / 4) (wpart dl (k + 1) (k / 4) : Nat)
        rw [wrL_set] at hT2
        have hS2 : Hold w [(25, .u8, w.heap.size, kl), (25, .u8, w.heap.size + 1, dl), (35, .u32, w.heap.size + 1 + 1, wrL kl (k + 1)), (35, .u32, w.heap.size + 1 + 1 + 1, wrL dl (k + 1)), (35, .u32, w.heap.size + 1 + 1 + 1 + 1, wrL dl (k))] _ := hT2.drew
        clear hT2
        have hby2 := hdb.get k
        have hp2 := wpart_lt hdb k (k / 4)
        obtain ⟨x2, ex2⟩ : ∃ x : Nat, dl.getD k 0 = (x : Int) := ⟨(dl.getD k 0).toNat, by omega⟩
        rw [ex2] at hst2 hby2 hx2
        rw [← HR.out, IntKind.wrap_u32'] at hst2
        rw [← HQ.out] at hst2 hc2 hf2 hp2 hS2
        generalize wpart dl (k + 1) q = z2 at hst2 hS2
        generalize wpart dl k q = y2 at hst2 hc2 hp2
        clear ex2
        clear hS1
        go_wp2_with fail
        apply wp_meet
        · go_region
          all_goals exact Meet.mk
        generalize (W1.setCell ⟨w.heap.size + 1 + 1 + 1, q, none⟩ (.int .u32 (z2 : Int))).drew = W2 at hS2 ⊢
        clear hst2 hc2 hx2 hf2 hby2 hp2
        have hst3 := wpart_step hdb k
        have hc3 := (hS2.at 4 rfl).cell (i := k / 4) (by rw [wrL_len]; omega)
        rw [wrL_get _ _ _ (by omega)] at hc3
        have hx3 := (hS2.at 1 rfl).cell (i := k) (by rw [hdl]; exact h)
        have hf3 := (hS2.at 4 rfl).free (k / 4)
        have hT3 := hS2.set (five_apart _ _ _ _ _ _) 4 rfl (by omega) (k / 4) (wpart dl (k + 1) (k / 4) : Nat)
        rw [wrL_set] at hT3
        have hS3 : Hold w [(25, .u8, w.heap.size, kl), (25, .u8, w.heap.size + 1, dl), (35, .u32, w.heap.size + 1 + 1, wrL kl (k + 1)), (35, .u32, w.heap.size + 1 + 1 + 1, wrL dl (k + 1)), (35, .u32, w.heap.size + 1 + 1 + 1 + 1, wrL dl (k + 1))] _ := hT3.drew
        clear hT3
        have hby3 := hdb.get k
        have hp3 := wpart_lt hdb k (k / 4)
        obtain ⟨x3, ex3⟩ : ∃ x : Nat, dl.getD k 0 = (x : Int) := ⟨(dl.getD k 0).toNat, by omega⟩
        rw [ex3] at hst3 hby3 hx3
        rw [← HR.out, IntKind.wrap_u32'] at hst3
        rw [← HQ.out] at hst3 hc3 hf3 hp3 hS3
        generalize wpart dl (k + 1) q = z3 at hst3 hS3
        generalize wpart dl k q = y3 at hst3 hc3 hp3
        clear ex3
        clear hS2
        go_wp2_with fail
        apply wp_meet
        · go_region
          all_goals exact Meet.mk
        generalize (W2.setCell ⟨w.heap.size + 1 + 1 + 1 + 1, q, none⟩ (.int .u32 (z3 : Int))).drew = W3 at hS3 ⊢
        clear hst3 hc3 hx3 hf3 hby3 hp3
        go_wp2_with fail
        go_roundw
        case rel => exact ⟨k + 1, by omega, by go_num, by rw [HM.out]; exact hS3⟩
        case measure => simp [intOf]; omega
      · have hkn1 : ¬ (k : Int) < (n : Int) := by omega
        have HM : Hid (min (k + 1) n = min k n) := by unfold Hid; omega
        have hst1 := wpart_step hkb k
        have hc1 := (hH.at 2 rfl).cell (i := k / 4) (by rw [wrL_len]; omega)
        rw [wrL_get _ _ _ (by omega)] at hc1
        have hx1 := (hH.at 0 rfl).cell (i := k) (by rw [hkl]; exact h)
        have hf1 := (hH.at 2 rfl).free (k / 4)
        have hT1 := hH.set (five_apart _ _ _ _ _ _) 2 rfl (by omega) (k / 4) (wpart kl (k + 1) (k / 4) : Nat)
        rw [wrL_set] at hT1
        have hS1 : Hold w [(25, .u8, w.heap.size, kl), (25, .u8, w.heap.size + 1, dl), (35, .u32, w.heap.size + 1 + 1, wrL kl (k + 1)), (35, .u32, w.heap.size + 1 + 1 + 1, wrL dl k), (35, .u32, w.heap.size + 1 + 1 + 1 + 1, wrL dl (min k n))] _ := hT1.drew
        clear hT1
        have hby1 := hkb.get k
        have hp1 := wpart_lt hkb k (k / 4)
        obtain ⟨x1, ex1⟩ : ∃ x : Nat, kl.getD k 0 = (x : Int) := ⟨(kl.getD k 0).toNat, by omega⟩
        rw [ex1] at hst1 hby1 hx1
        rw [← HR.out, IntKind.wrap_u32'] at hst1
        rw [← HQ.out] at hst1 hc1 hf1 hp1 hS1
        generalize wpart kl (k + 1) q = z1 at hst1 hS1
        generalize wpart kl k q = y1 at hst1 hc1 hp1
        clear ex1
        clear hH
        go_wp2_with fail
        apply wp_meet
        · go_region
          all_goals exact Meet.mk
        generalize (wr.setCell ⟨w.heap.size + 1 + 1, q, none⟩ (.int .u32 (z1 : Int))).drew = W1 at hS1 ⊢
        clear hst1 hc1 hx1 hf1 hby1 hp1
        have hst2 := wpart_step hdb k
        have hc2 := (hS1.at 3 rfl).cell (i := k / 4) (by rw [wrL_len]; omega)
        rw [wrL_get _ _ _ (by omega)] at hc2
        have hx2 := (hS1.at 1 rfl).cell (i := k) (by rw [hdl]; exact h)
        have hf2 := (hS1.at 3 rfl).free (k / 4)
        have hT2 := hS1.set (five_apart _ _ _ _ _ _) 3 rfl (by omega) (k / 4) (wpart dl (k + 1) (k / 4) : Nat)
        rw [wrL_set] at hT2
        have hS2 : Hold w [(25, .u8, w.heap.size, kl), (25, .u8, w.heap.size + 1, dl), (35, .u32, w.heap.size + 1 + 1, wrL kl (k + 1)), (35, .u32, w.heap.size + 1 + 1 + 1, wrL dl (k + 1)), (35, .u32, w.heap.size + 1 + 1 + 1 + 1, wrL dl (min k n))] _ := hT2.drew
        clear hT2
        have hby2 := hdb.get k
        have hp2 := wpart_lt hdb k (k / 4)
        obtain ⟨x2, ex2⟩ : ∃ x : Nat, dl.getD k 0 = (x : Int) := ⟨(dl.getD k 0).toNat, by omega⟩
        rw [ex2] at hst2 hby2 hx2
        rw [← HR.out, IntKind.wrap_u32'] at hst2
        rw [← HQ.out] at hst2 hc2 hf2 hp2 hS2
        generalize wpart dl (k + 1) q = z2 at hst2 hS2
        generalize wpart dl k q = y2 at hst2 hc2 hp2
        clear ex2
        clear hS1
        go_wp2_with fail
        apply wp_meet
        · go_region
          all_goals exact Meet.mk
        generalize (W1.setCell ⟨w.heap.size + 1 + 1 + 1, q, none⟩ (.int .u32 (z2 : Int))).drew = W2 at hS2 ⊢
        clear hst2 hc2 hx2 hf2 hby2 hp2
        go_wp2_with fail
        go_roundw
        case rel => exact ⟨k + 1, by omega, by go_num, by rw [HM.out]; exact hS2⟩
        case measure => simp [intOf]; omega
    · obtain rfl : k = 16 := by omega
      rw [show min 16 n = n by omega, wrL_end, wrL_end] at hH
      have hfw := fill_words hdl hdb hnl
      obtain ⟨q, hq⟩ : ∃ q : Nat, q = n / 4 := ⟨_, rfl⟩
      obtain ⟨r, hr⟩ : ∃ r : Nat, r = n % 4 * 8 := ⟨_, rfl⟩
      have hq1 : (n : Int) / 4 = (q : Int) := by omega
      have hr1 : 8 * ((n : Int) % 4) = (r : Int) := by omega
      have hq2 : (q : Int) < 4 := by omega
      have hr2 : r < 32 := by omega
      have hc4 := (hH.at 4 rfl).cell (i := n / 4) (by rw [wrL_len]; omega)
      rw [wrL_get _ _ _ (by omega)] at hc4
      have hf4 := (hH.at 4 rfl).free (n / 4)
      have hp4 := wpart_lt hdb n (n / 4)
      have hT := hH.set (five_apart _ _ _ _ _ _) 4 rfl (by omega) (n / 4) (wpart (fillL (dl.take n)) (n + 1) (n / 4) : Nat)
      rw [hfw.2] at hT
      have hS4 : Hold w [(25, .u8, w.heap.size, kl), (25, .u8, w.heap.size + 1, dl), (35, .u32, w.heap.size + 1 + 1, qI (qW kl)), (35, .u32, w.heap.size + 1 + 1 + 1, qI (qW dl)), (35, .u32, w.heap.size + 1 + 1 + 1 + 1, qI (qW (fillL (dl.take n))))] _ := hT.drew
      have hst4 := hfw.1
      rw [← hr, Int.one_mul, IntKind.wrap_u32'] at hst4
      rw [← hq] at hst4 hc4 hf4 hp4 hS4
      generalize wpart (fillL (dl.take n)) (n + 1) q = z4 at hst4 hS4
      generalize wpart dl n q = y4 at hst4 hc4 hp4
      have hn16 : (n : Int) < 16 := by omega
      have hn17 : (n : Int) ≤ 16 := by omega
      have hn18 : n ≤ 16 := by omega
      clear hT hfw hH hq hr
      go_wp2_with fail
      apply wp_meet
      · go_region
        all_goals exact Meet.mk
      generalize (wr.setCell ⟨w.heap.size + 1 + 1 + 1 + 1, q, none⟩ (.int .u32 (z4 : Int))).drew = W4 at hS4 ⊢
      clear hst4 hc4 hf4 hp4 hq1 hr1 hq2 hr2
      go_wp2_with fail
      have hlk : kl.take 16 = kl := List.take_of_length_le (by omega)
      have hld : dl.take 16 = dl := List.take_of_length_le (by omega)
      have cO := fun W (h : Hold w [(25, .u8, w.heap.size, kl), (25, .u8, w.heap.size + 1, dl), (35, .u32, w.heap.size + 1 + 1, qI (qW kl)), (35, .u32, w.heap.size + 1 + 1 + 1, qI (qW dl)), (35, .u32, w.heap.size + 1 + 1 + 1 + 1, qI (qW (fillL (dl.take n))))] W) => of_any (some ⟨w.heap.size, 0, none⟩) 16 (kl.take 16) (some ⟨w.heap.size + 1, 0, none⟩) 16 16 (dl.take 16) W ((h.at 0 rfl).rdAll 16 (by omega) 16 (Nat.le_refl _)) (hkb.take 16) ((h.at 1 rfl).rdAll 16 (by omega) 16 (Nat.le_refl _)) (hdb.take 16)
      have cP := fun W (h : Hold w [(25, .u8, w.heap.size, kl), (25, .u8, w.heap.size + 1, dl), (35, .u32, w.heap.size + 1 + 1, qI (qW kl)), (35, .u32, w.heap.size + 1 + 1 + 1, qI (qW dl)), (35, .u32, w.heap.size + 1 + 1 + 1 + 1, qI (qW (fillL (dl.take n))))] W) => of_any (some ⟨w.heap.size, 0, none⟩) 16 (kl.take 16) (some ⟨w.heap.size + 1, 0, none⟩) n 16 (dl.take n) W ((h.at 0 rfl).rdAll 16 (by omega) 16 (Nat.le_refl _)) (hkb.take 16) ((h.at 1 rfl).rdAll n (by omega) 16 (by omega)) (hdb.take n)
      rw [hlk, hld] at cO
      rw [hlk] at cP
      have hN5 := five_apart w.heap.size kl dl (qI (qW kl)) (qI (qW dl)) (qI (qW (fillL (dl.take n))))
      refine wp_region_det [0, 1, 2, 3, 4, 5, 8] (Hold w [(25, .u8, w.heap.size, kl), (25, .u8, w.heap.size + 1, dl), (35, .u32, w.heap.size + 1 + 1, qI (qW kl)), (35, .u32, w.heap.size + 1 + 1 + 1, qI (qW dl)), (35, .u32, w.heap.size + 1 + 1 + 1 + 1, qI (qW (fillL (dl.take n))))]) (Hold w [(25, .u8, w.heap.size, kl), (25, .u8, w.heap.size + 1, dl), (35, .u32, w.heap.size + 1 + 1, qI (qW kl)), (35, .u32, w.heap.size + 1 + 1 + 1, qI (qW dl)), (35, .u32, w.heap.size + 1 + 1 + 1 + 1, qI (qW (fillL (dl.take n))))]) (by kernel_rfl) hS4.drew ?_
      refine wpDet_take ?vA0 (Hold.stays _ _) (fun _ h => h) (i := 0) rfl (by kernel_rfl) (by kernel_rfl) (by kernel_rfl) (by kernel_rfl) (fun _ _ _ h => h) (Gives.value (by rfl) ?yA0) ?rA0
      case yA0 => (intro w' hSw; (try dsimp only at hSw); go_simp; try with_reducible rfl)
      (try simp only [Act.put, List.getElem_toArray, List.getElem_cons_zero, List.getElem_cons_succ, List.setIfInBounds_toArray, List.set_cons_zero, List.set_cons_succ])
      refine wpDet_take ?vA1 (Hold.stays _ _) (fun _ h => h) (i := 1) rfl (by kernel_rfl) (by kernel_rfl) (by kernel_rfl) (by kernel_rfl) (fun _ _ _ h => h) (Gives.value (by rfl) ?yA1) ?rA1
      case yA1 => (intro w' hSw; (try dsimp only at hSw); go_simp; try with_reducible rfl)
      (try simp only [Act.put, List.getElem_toArray, List.getElem_cons_zero, List.getElem_cons_succ, List.setIfInBounds_toArray, List.set_cons_zero, List.set_cons_succ])
      refine wpDet_take (.tuple #[.agg (nums .u8 (digest kl dl)), .int .i64 0]) (Hold.stays _ _) (fun _ h => h) (i := 2) rfl (by kernel_rfl) (by kernel_rfl) (by kernel_rfl) (by kernel_rfl) (fun _ _ _ h => h) (Gives.call 8 #[.slice (some ⟨w.heap.size, 0, none⟩) 16 16, .slice (some ⟨w.heap.size + 1, 0, none⟩) 16 16] (by rfl) (fun _ => by first | (go_simp; done) | (go_simp; rfl)) (fun W hW => cO W hW)) ?_
      (try simp only [Act.put, List.getElem_toArray, List.getElem_cons_zero, List.getElem_cons_succ, List.setIfInBounds_toArray, List.set_cons_zero, List.set_cons_succ])
      refine wpDet_take ?vA3 (Hold.stays _ _) (fun _ h => h) (i := 3) rfl (by kernel_rfl) (by kernel_rfl) (by kernel_rfl) (by kernel_rfl) (fun _ _ _ h => h) (Gives.value (by rfl) ?yA3) ?rA3
      case yA3 => (intro w' hSw; (try dsimp only at hSw); go_simp; try with_reducible rfl)
      (try simp only [Act.put, List.getElem_toArray, List.getElem_cons_zero, List.getElem_cons_succ, List.setIfInBounds_toArray, List.set_cons_zero, List.set_cons_succ])
      refine wpDet_take ?vA4 (Hold.stays _ _) (fun _ h => h) (i := 4) rfl (by kernel_rfl) (by kernel_rfl) (by kernel_rfl) (by kernel_rfl) (fun _ _ _ h => h) (Gives.value (by rfl) ?yA4) ?rA4
      case yA4 => (intro w' hSw; (try dsimp only at hSw); go_simp; try with_reducible rfl)
      (try simp only [Act.put, List.getElem_toArray, List.getElem_cons_zero, List.getElem_cons_succ, List.setIfInBounds_toArray, List.set_cons_zero, List.set_cons_succ])
      refine wpDet_take ?vA5 (Hold.stays _ _) (fun _ h => h) (i := 5) rfl (by kernel_rfl) (by kernel_rfl) (by kernel_rfl) (by kernel_rfl) (fun _ _ _ h => h) (Gives.value (by rfl) ?yA5) ?rA5
      case yA5 => (intro w' hSw; (try dsimp only at hSw); go_simp; try with_reducible rfl)
      (try simp only [Act.put, List.getElem_toArray, List.getElem_cons_zero, List.getElem_cons_succ, List.setIfInBounds_toArray, List.set_cons_zero, List.set_cons_succ])
      refine wpDet_ready (rs := [6]) (by kernel_rfl) (by simp) (AllDet.cons rfl (fun W hW K hK => ?_) AllDet.nil)
      have hA := hW.new 25 .u8 (List.replicate 16 0)
      have d1N := hW.newN hN5 25 .u8 (List.replicate 16 0)
      have d1G := hW.2.size
      rw [zero16] at hA
      go_simp
      refine hK.out _ _ _ (Hold.stays _ _) (fun _ _ h => h.tail) hA ?_
      clear hK K hA hW
      generalize W.heap.size = d1 at d1N d1G ⊢
      (try simp only [Act.put, List.getElem_toArray, List.getElem_cons_zero, List.getElem_cons_succ, List.setIfInBounds_toArray, List.set_cons_zero, List.set_cons_succ])
      refine wpDet_ready (rs := [7]) (by kernel_rfl) (by simp) (AllDet.cons rfl (fun W hW K hK => ?_) AllDet.nil)
      rw [if_pos (by rfl)]
      refine wp_store_row 25 _ _ rfl d1 (nums .u8 (digest kl dl)) rfl rfl _ _ (hW.at 0 rfl) (info_nums .u8 (digest kl dl) infoB (digest_len _ _)) (by rw [nums_size, nums_size, digest_len]; rfl) (nums_one _ _) ?_
      have hA : Hold w ((25, .u8, d1, (digest kl dl)) :: [(25, .u8, w.heap.size, kl), (25, .u8, w.heap.size + 1, dl), (35, .u32, w.heap.size + 1 + 1, qI (qW kl)), (35, .u32, w.heap.size + 1 + 1 + 1, qI (qW dl)), (35, .u32, w.heap.size + 1 + 1 + 1 + 1, qI (qW (fillL (dl.take n))))]) _ := hW.row d1N 0 rfl d1G ((digest kl dl))
      refine hK.out _ _ _ (Hold.stays _ _) (fun _ _ h => h.tail) hA ?_
      clear hK K hA hW
      (try simp only [Act.put, List.getElem_toArray, List.getElem_cons_zero, List.getElem_cons_succ, List.setIfInBounds_toArray, List.set_cons_zero, List.set_cons_succ])
      refine wpDet_take ?vA8 (Hold.stays _ _) (fun _ h => h.tail) (i := 8) rfl (by kernel_rfl) (by kernel_rfl) (by kernel_rfl) (by kernel_rfl) (fun _ _ _ h => h) (Gives.value (by rfl) ?yA8) ?rA8
      case yA8 => (intro w' hSw; (try dsimp only at hSw); go_simp; try with_reducible rfl)
      (try simp only [Act.put, List.getElem_toArray, List.getElem_cons_zero, List.getElem_cons_succ, List.setIfInBounds_toArray, List.set_cons_zero, List.set_cons_succ])
      refine wpDet_done (by kernel_rfl) (fun W hW => ?_) _
      clear hS4 cO
      go_wp2_with fail
      refine wp_region_det [0, 1, 2, 3, 4, 5, 6, 9] (Hold w ((25, .u8, d1, (digest kl dl)) :: [(25, .u8, w.heap.size, kl), (25, .u8, w.heap.size + 1, dl), (35, .u32, w.heap.size + 1 + 1, qI (qW kl)), (35, .u32, w.heap.size + 1 + 1 + 1, qI (qW dl)), (35, .u32, w.heap.size + 1 + 1 + 1 + 1, qI (qW (fillL (dl.take n))))])) (Hold w ((25, .u8, d1, (digest kl dl)) :: [(25, .u8, w.heap.size, kl), (25, .u8, w.heap.size + 1, dl), (35, .u32, w.heap.size + 1 + 1, qI (qW kl)), (35, .u32, w.heap.size + 1 + 1 + 1, qI (qW dl)), (35, .u32, w.heap.size + 1 + 1 + 1 + 1, qI (qW (fillL (dl.take n))))])) (by kernel_rfl) hW.drew ?_
      refine wpDet_take ?vC0 (Hold.stays _ _) (fun _ h => h) (i := 0) rfl (by kernel_rfl) (by kernel_rfl) (by kernel_rfl) (by kernel_rfl) (fun _ _ _ h => h) (Gives.value (by rfl) ?yC0) ?rC0
      case yC0 => (intro w' hSw; (try dsimp only at hSw); go_simp; try with_reducible rfl)
      (try simp only [Act.put, List.getElem_toArray, List.getElem_cons_zero, List.getElem_cons_succ, List.setIfInBounds_toArray, List.set_cons_zero, List.set_cons_succ])
      refine wpDet_take ?vC1 (Hold.stays _ _) (fun _ h => h) (i := 1) rfl (by kernel_rfl) (by kernel_rfl) (by kernel_rfl) (by kernel_rfl) (fun _ _ _ h => h) (Gives.value (by rfl) ?yC1) ?rC1
      case yC1 => (intro w' hSw; (try dsimp only at hSw); go_simp; try with_reducible rfl)
      (try simp only [Act.put, List.getElem_toArray, List.getElem_cons_zero, List.getElem_cons_succ, List.setIfInBounds_toArray, List.set_cons_zero, List.set_cons_succ])
      refine wpDet_take ?vC2 (Hold.stays _ _) (fun _ h => h) (i := 2) rfl (by kernel_rfl) (by kernel_rfl) (by kernel_rfl) (by kernel_rfl) (fun _ _ _ h => h) (Gives.value (by rfl) ?yC2) ?rC2
      case yC2 => (intro w' hSw; (try dsimp only at hSw); go_simp; try with_reducible rfl)
      (try simp only [Act.put, List.getElem_toArray, List.getElem_cons_zero, List.getElem_cons_succ, List.setIfInBounds_toArray, List.set_cons_zero, List.set_cons_succ])
      refine wpDet_take (.tuple #[.agg (nums .u8 (digest kl (dl.take n))), .int .i64 0]) (Hold.stays _ _) (fun _ h => h) (i := 3) rfl (by kernel_rfl) (by kernel_rfl) (by kernel_rfl) (by kernel_rfl) (fun _ _ _ h => h) (Gives.call 8 #[.slice (some ⟨w.heap.size, 0, none⟩) 16 16, .slice (some ⟨w.heap.size + 1, 0, none⟩) n 16] (by rfl) (fun _ => by first | (go_simp; done) | (go_simp; rfl)) (fun W hW => cP W hW.tail)) ?_
      (try simp only [Act.put, List.getElem_toArray, List.getElem_cons_zero, List.getElem_cons_succ, List.setIfInBounds_toArray, List.set_cons_zero, List.set_cons_succ])
      refine wpDet_take ?vC4 (Hold.stays _ _) (fun _ h => h) (i := 4) rfl (by kernel_rfl) (by kernel_rfl) (by kernel_rfl) (by kernel_rfl) (fun _ _ _ h => h) (Gives.value (by rfl) ?yC4) ?rC4
      case yC4 => (intro w' hSw; (try dsimp only at hSw); go_simp; try with_reducible rfl)
      (try simp only [Act.put, List.getElem_toArray, List.getElem_cons_zero, List.getElem_cons_succ, List.setIfInBounds_toArray, List.set_cons_zero, List.set_cons_succ])
      refine wpDet_take ?vC5 (Hold.stays _ _) (fun _ h => h) (i := 5) rfl (by kernel_rfl) (by kernel_rfl) (by kernel_rfl) (by kernel_rfl) (fun _ _ _ h => h) (Gives.value (by rfl) ?yC5) ?rC5
      case yC5 => (intro w' hSw; (try dsimp only at hSw); go_simp; try with_reducible rfl)
      (try simp only [Act.put, List.getElem_toArray, List.getElem_cons_zero, List.getElem_cons_succ, List.setIfInBounds_toArray, List.set_cons_zero, List.set_cons_succ])
      refine wpDet_take ?vC6 (Hold.stays _ _) (fun _ h => h) (i := 6) rfl (by kernel_rfl) (by kernel_rfl) (by kernel_rfl) (by kernel_rfl) (fun _ _ _ h => h) (Gives.value (by rfl) ?yC6) ?rC6
      case yC6 => (intro w' hSw; (try dsimp only at hSw); go_simp; try with_reducible rfl)
      (try simp only [Act.put, List.getElem_toArray, List.getElem_cons_zero, List.getElem_cons_succ, List.setIfInBounds_toArray, List.set_cons_zero, List.set_cons_succ])
      refine wpDet_ready (rs := [7]) (by kernel_rfl) (by simp) (AllDet.cons rfl (fun W hW K hK => ?_) AllDet.nil)
      have hA := hW.new 25 .u8 (List.replicate 16 0)
      have d2N := hW.newN d1N 25 .u8 (List.replicate 16 0)
      have d2G := hW.2.size
      rw [zero16] at hA
      go_simp
      refine hK.out _ _ _ (Hold.stays _ _) (fun _ _ h => h.tail) hA ?_
      clear hK K hA hW
      generalize W.heap.size = d2 at d2N d2G ⊢
      (try simp only [Act.put, List.getElem_toArray, List.getElem_cons_zero, List.getElem_cons_succ, List.setIfInBounds_toArray, List.set_cons_zero, List.set_cons_succ])
      refine wpDet_ready (rs := [8]) (by kernel_rfl) (by simp) (AllDet.cons rfl (fun W hW K hK => ?_) AllDet.nil)
      rw [if_pos (by rfl)]
      refine wp_store_row 25 _ _ rfl d2 (nums .u8 (digest kl (dl.take n))) rfl rfl _ _ (hW.at 0 rfl) (info_nums .u8 (digest kl (dl.take n)) infoB (digest_len _ _)) (by rw [nums_size, nums_size, digest_len]; rfl) (nums_one _ _) ?_
      have hA : Hold w ((25, .u8, d2, (digest kl (dl.take n))) :: ((25, .u8, d1, (digest kl dl)) :: [(25, .u8, w.heap.size, kl), (25, .u8, w.heap.size + 1, dl), (35, .u32, w.heap.size + 1 + 1, qI (qW kl)), (35, .u32, w.heap.size + 1 + 1 + 1, qI (qW dl)), (35, .u32, w.heap.size + 1 + 1 + 1 + 1, qI (qW (fillL (dl.take n))))])) _ := hW.row d2N 0 rfl d2G ((digest kl (dl.take n)))
      refine hK.out _ _ _ (Hold.stays _ _) (fun _ _ h => h.tail) hA ?_
      clear hK K hA hW
      (try simp only [Act.put, List.getElem_toArray, List.getElem_cons_zero, List.getElem_cons_succ, List.setIfInBounds_toArray, List.set_cons_zero, List.set_cons_succ])
      refine wpDet_take ?vC9 (Hold.stays _ _) (fun _ h => h.tail) (i := 9) rfl (by kernel_rfl) (by kernel_rfl) (by kernel_rfl) (by kernel_rfl) (fun _ _ _ h => h) (Gives.value (by rfl) ?yC9) ?rC9
      case yC9 => (intro w' hSw; (try dsimp only at hSw); go_simp; try with_reducible rfl)
      (try simp only [Act.put, List.getElem_toArray, List.getElem_cons_zero, List.getElem_cons_succ, List.setIfInBounds_toArray, List.set_cons_zero, List.set_cons_succ])
      refine wpDet_done (by kernel_rfl) (fun W hW => ?_) _
      rename_i W6 hW6 W7
      go_wp2_with fail
      have hqk := qW_lt hkb
      have cD1 := fun W => double_any (qW kl) W hqk
      have cD2 := fun W => double_any (dbl (qW kl)) W (dbl_lt hqk)
      have hiK : (Try.prog.info? 35).map (·.size) = some ((qI (qW kl)).map (Value.int .u32)).length := infoQ
      go_cut [15, 16] from 100 to 104 (fun v1 v2 W => ∃ o1 o2 : Nat, v1 = .pointer (some ⟨o1, 0, none⟩) ∧ v2 = .pointer (some ⟨o2, 0, none⟩) ∧ Hold w ((35, .u32, o2, (qI (dbl (dbl (qW kl))))) :: (35, .u32, o1, (qI (dbl (qW kl)))) :: ((25, .u8, d2, (digest kl (dl.take n))) :: (25, .u8, d1, (digest kl dl)) :: [(25, .u8, w.heap.size, kl), (25, .u8, w.heap.size + 1, dl), (35, .u32, w.heap.size + 1 + 1, qI (qW kl)), (35, .u32, w.heap.size + 1 + 1 + 1, qI (qW dl)), (35, .u32, w.heap.size + 1 + 1 + 1 + 1, qI (qW (fillL (dl.take n))))])) W ∧ (places ((35, .u32, o2, (qI (dbl (dbl (qW kl))))) :: (35, .u32, o1, (qI (dbl (qW kl)))) :: ((25, .u8, d2, (digest kl (dl.take n))) :: (25, .u8, d1, (digest kl dl)) :: [(25, .u8, w.heap.size, kl), (25, .u8, w.heap.size + 1, dl), (35, .u32, w.heap.size + 1 + 1, qI (qW kl)), (35, .u32, w.heap.size + 1 + 1 + 1, qI (qW dl)), (35, .u32, w.heap.size + 1 + 1 + 1 + 1, qI (qW (fillL (dl.take n))))]))).Nodup ∧ w.heap.size ≤ o1 ∧ w.heap.size ≤ o2)
      case first =>
        refine wp_region_det [0, 1, 2, 3, 4] (Hold w ((25, .u8, d2, (digest kl (dl.take n))) :: (25, .u8, d1, (digest kl dl)) :: [(25, .u8, w.heap.size, kl), (25, .u8, w.heap.size + 1, dl), (35, .u32, w.heap.size + 1 + 1, qI (qW kl)), (35, .u32, w.heap.size + 1 + 1 + 1, qI (qW dl)), (35, .u32, w.heap.size + 1 + 1 + 1 + 1, qI (qW (fillL (dl.take n))))])) (Hold w ((25, .u8, d2, (digest kl (dl.take n))) :: (25, .u8, d1, (digest kl dl)) :: [(25, .u8, w.heap.size, kl), (25, .u8, w.heap.size + 1, dl), (35, .u32, w.heap.size + 1 + 1, qI (qW kl)), (35, .u32, w.heap.size + 1 + 1 + 1, qI (qW dl)), (35, .u32, w.heap.size + 1 + 1 + 1 + 1, qI (qW (fillL (dl.take n))))])) (by kernel_rfl) hW.drew ?_
        refine wpDet_take _ (Hold.stays _ _) (fun _ h => h) (i := 0) rfl (by kernel_rfl) (by kernel_rfl) (by kernel_rfl) (by kernel_rfl) (fun _ _ _ h => h) (Gives.of_yields (yieldsIf_load_mid (by rfl) _ _ rfl _ _ rfl _ _ (fun _ h => (h.at 4 rfl).range) Try.underlying35 rfl hiK)) ?_
        (try simp only [Act.put, List.getElem_toArray, List.getElem_cons_zero, List.getElem_cons_succ, List.setIfInBounds_toArray, List.set_cons_zero, List.set_cons_succ])
        refine wpDet_take (.agg (qA (dbl (qW kl)))) (Hold.stays _ _) (fun _ h => h) (i := 1) rfl (by kernel_rfl) (by kernel_rfl) (by kernel_rfl) (by kernel_rfl) (fun _ _ _ h => h) (Gives.call 13 #[.agg (qA (qW kl))] (by rfl) (fun _ => by first | (go_simp; done) | (go_simp; rfl)) (fun W hW => cD1 W)) ?_
        (try simp only [Act.put, List.getElem_toArray, List.getElem_cons_zero, List.getElem_cons_succ, List.setIfInBounds_toArray, List.set_cons_zero, List.set_cons_succ])
        refine wpDet_take _ (Hold.stays _ _) (fun _ h => h) (i := 2) rfl (by kernel_rfl) (by kernel_rfl) (by kernel_rfl) (by kernel_rfl) (fun _ _ _ h => h) (Gives.of_yields (yieldsIf_load_mid (by rfl) _ _ rfl _ _ rfl _ _ (fun _ h => (h.at 4 rfl).range) Try.underlying35 rfl hiK)) ?_
        (try simp only [Act.put, List.getElem_toArray, List.getElem_cons_zero, List.getElem_cons_succ, List.setIfInBounds_toArray, List.set_cons_zero, List.set_cons_succ])
        refine wpDet_take (.agg (qA (dbl (qW kl)))) (Hold.stays _ _) (fun _ h => h) (i := 3) rfl (by kernel_rfl) (by kernel_rfl) (by kernel_rfl) (by kernel_rfl) (fun _ _ _ h => h) (Gives.call 13 #[.agg (qA (qW kl))] (by rfl) (fun _ => by first | (go_simp; done) | (go_simp; rfl)) (fun W hW => cD1 W)) ?_
        (try simp only [Act.put, List.getElem_toArray, List.getElem_cons_zero, List.getElem_cons_succ, List.setIfInBounds_toArray, List.set_cons_zero, List.set_cons_succ])
        refine wpDet_take (.agg (qA (dbl (dbl (qW kl))))) (Hold.stays _ _) (fun _ h => h) (i := 4) rfl (by kernel_rfl) (by kernel_rfl) (by kernel_rfl) (by kernel_rfl) (fun _ _ _ h => h) (Gives.call 13 #[.agg (qA (dbl (qW kl)))] (by rfl) (fun _ => by first | (go_simp; done) | (go_simp; rfl)) (fun W hW => cD2 W)) ?_
        (try simp only [Act.put, List.getElem_toArray, List.getElem_cons_zero, List.getElem_cons_succ, List.setIfInBounds_toArray, List.set_cons_zero, List.set_cons_succ])
        refine wpDet_ready (rs := [5, 6]) (by kernel_rfl) (by simp) (AllDet.cons rfl (fun W hW K hK => ?_) (AllDet.cons rfl (fun W hW K hK => ?_) AllDet.nil))
        · have hA := hW.new 35 .u32 [0, 0, 0, 0]
          have hN1 := hW.newN d2N 35 .u32 [0, 0, 0, 0]
          have hG1 := hW.2.size
          go_simp
          refine hK.out _ _ _ (Hold.stays _ _) (fun _ _ h => h.tail) hA ?_
          clear hK K hA hW
          generalize W.heap.size = p1 at hN1 hG1 ⊢
          (try simp only [Act.put, List.getElem_toArray, List.getElem_cons_zero, List.getElem_cons_succ, List.setIfInBounds_toArray, List.set_cons_zero, List.set_cons_succ])
          refine wpDet_ready (rs := [6]) (by kernel_rfl) (by simp) (AllDet.cons rfl (fun W hW K hK => ?_) AllDet.nil)
          have hA := hW.new 35 .u32 [0, 0, 0, 0]
          have hN2 := hW.newN hN1 35 .u32 [0, 0, 0, 0]
          have hG2 := hW.2.size
          go_simp
          refine hK.out _ _ _ (Hold.stays _ _) (fun _ _ h => h.tail.tail) hA ?_
          clear hK K hA hW
          generalize W.heap.size = p2 at hN2 hG2 ⊢
          (try simp only [Act.put, List.getElem_toArray, List.getElem_cons_zero, List.getElem_cons_succ, List.setIfInBounds_toArray, List.set_cons_zero, List.set_cons_succ])
          refine wpDet_ready (rs := [7]) (by kernel_rfl) (by simp) (AllDet.cons rfl (fun W hW K hK => ?_) AllDet.nil)
          rw [if_pos (by rfl)]
          refine wp_store_row 35 _ _ rfl p1 (nums .u32 (qI (dbl (qW kl)))) rfl rfl _ _ (hW.at 1 rfl) (info_nums .u32 (qI (dbl (qW kl))) infoQ rfl) rfl (nums_one _ _) ?_
          have hA : Hold w ((35, .u32, p2, [0, 0, 0, 0]) :: (35, .u32, p1, (qI (dbl (qW kl)))) :: ((25, .u8, d2, (digest kl (dl.take n))) :: (25, .u8, d1, (digest kl dl)) :: [(25, .u8, w.heap.size, kl), (25, .u8, w.heap.size + 1, dl), (35, .u32, w.heap.size + 1 + 1, qI (qW kl)), (35, .u32, w.heap.size + 1 + 1 + 1, qI (qW dl)), (35, .u32, w.heap.size + 1 + 1 + 1 + 1, qI (qW (fillL (dl.take n))))])) _ := hW.row hN2 1 rfl hG1 ((qI (dbl (qW kl))))
          refine hK.out _ _ _ (Hold.stays _ _) (fun _ _ h => h.tail.tail) hA ?_
          clear hK K hA hW
          (try simp only [Act.put, List.getElem_toArray, List.getElem_cons_zero, List.getElem_cons_succ, List.setIfInBounds_toArray, List.set_cons_zero, List.set_cons_succ])
          have hN3 : (places ((35, .u32, p2, [0, 0, 0, 0]) :: (35, .u32, p1, (qI (dbl (qW kl)))) :: ((25, .u8, d2, (digest kl (dl.take n))) :: (25, .u8, d1, (digest kl dl)) :: [(25, .u8, w.heap.size, kl), (25, .u8, w.heap.size + 1, dl), (35, .u32, w.heap.size + 1 + 1, qI (qW kl)), (35, .u32, w.heap.size + 1 + 1 + 1, qI (qW dl)), (35, .u32, w.heap.size + 1 + 1 + 1 + 1, qI (qW (fillL (dl.take n))))]))).Nodup := hN2
          refine wpDet_ready (rs := [8]) (by kernel_rfl) (by simp) (AllDet.cons rfl (fun W hW K hK => ?_) AllDet.nil)
          rw [if_pos (by rfl)]
          refine wp_store_row 35 _ _ rfl p2 (nums .u32 (qI (dbl (dbl (qW kl))))) rfl rfl _ _ (hW.at 0 rfl) (info_nums .u32 (qI (dbl (dbl (qW kl)))) infoQ rfl) rfl (nums_one _ _) ?_
          have hA : Hold w ((35, .u32, p2, (qI (dbl (dbl (qW kl))))) :: (35, .u32, p1, (qI (dbl (qW kl)))) :: ((25, .u8, d2, (digest kl (dl.take n))) :: (25, .u8, d1, (digest kl dl)) :: [(25, .u8, w.heap.size, kl), (25, .u8, w.heap.size + 1, dl), (35, .u32, w.heap.size + 1 + 1, qI (qW kl)), (35, .u32, w.heap.size + 1 + 1 + 1, qI (qW dl)), (35, .u32, w.heap.size + 1 + 1 + 1 + 1, qI (qW (fillL (dl.take n))))])) _ := hW.row hN3 0 rfl hG2 ((qI (dbl (dbl (qW kl)))))
          refine hK.out _ _ _ (Hold.stays _ _) (fun _ _ h => h.tail.tail) hA ?_
          clear hK K hA hW
          (try simp only [Act.put, List.getElem_toArray, List.getElem_cons_zero, List.getElem_cons_succ, List.setIfInBounds_toArray, List.set_cons_zero, List.set_cons_succ])
          refine wpDet_done (by kernel_rfl) (fun W hW => ?_) _
          go_wp2_with fail
          go_meet
          case rel => exact ⟨p1, p2, rfl, rfl, hW, hN2, hG1, hG2⟩
        · have hA := hW.new 35 .u32 [0, 0, 0, 0]
          have hN1 := hW.newN d2N 35 .u32 [0, 0, 0, 0]
          have hG1 := hW.2.size
          go_simp
          refine hK.out _ _ _ (Hold.stays _ _) (fun _ _ h => h.tail) hA ?_
          clear hK K hA hW
          generalize W.heap.size = p1 at hN1 hG1 ⊢
          (try simp only [Act.put, List.getElem_toArray, List.getElem_cons_zero, List.getElem_cons_succ, List.setIfInBounds_toArray, List.set_cons_zero, List.set_cons_succ])
          refine wpDet_ready (rs := [5]) (by kernel_rfl) (by simp) (AllDet.cons rfl (fun W hW K hK => ?_) AllDet.nil)
          have hA := hW.new 35 .u32 [0, 0, 0, 0]
          have hN2 := hW.newN hN1 35 .u32 [0, 0, 0, 0]
          have hG2 := hW.2.size
          go_simp
          refine hK.out _ _ _ (Hold.stays _ _) (fun _ _ h => h.tail.tail) hA ?_
          clear hK K hA hW
          generalize W.heap.size = p2 at hN2 hG2 ⊢
          (try simp only [Act.put, List.getElem_toArray, List.getElem_cons_zero, List.getElem_cons_succ, List.setIfInBounds_toArray, List.set_cons_zero, List.set_cons_succ])
          refine wpDet_ready (rs := [7]) (by kernel_rfl) (by simp) (AllDet.cons rfl (fun W hW K hK => ?_) AllDet.nil)
          rw [if_pos (by rfl)]
          refine wp_store_row 35 _ _ rfl p2 (nums .u32 (qI (dbl (qW kl)))) rfl rfl _ _ (hW.at 0 rfl) (info_nums .u32 (qI (dbl (qW kl))) infoQ rfl) rfl (nums_one _ _) ?_
          have hA : Hold w ((35, .u32, p2, (qI (dbl (qW kl)))) :: (35, .u32, p1, [0, 0, 0, 0]) :: ((25, .u8, d2, (digest kl (dl.take n))) :: (25, .u8, d1, (digest kl dl)) :: [(25, .u8, w.heap.size, kl), (25, .u8, w.heap.size + 1, dl), (35, .u32, w.heap.size + 1 + 1, qI (qW kl)), (35, .u32, w.heap.size + 1 + 1 + 1, qI (qW dl)), (35, .u32, w.heap.size + 1 + 1 + 1 + 1, qI (qW (fillL (dl.take n))))])) _ := hW.row hN2 0 rfl hG2 ((qI (dbl (qW kl))))
          refine hK.out _ _ _ (Hold.stays _ _) (fun _ _ h => h.tail.tail) hA ?_
          clear hK K hA hW
          (try simp only [Act.put, List.getElem_toArray, List.getElem_cons_zero, List.getElem_cons_succ, List.setIfInBounds_toArray, List.set_cons_zero, List.set_cons_succ])
          have hN3 : (places ((35, .u32, p2, (qI (dbl (qW kl)))) :: (35, .u32, p1, [0, 0, 0, 0]) :: ((25, .u8, d2, (digest kl (dl.take n))) :: (25, .u8, d1, (digest kl dl)) :: [(25, .u8, w.heap.size, kl), (25, .u8, w.heap.size + 1, dl), (35, .u32, w.heap.size + 1 + 1, qI (qW kl)), (35, .u32, w.heap.size + 1 + 1 + 1, qI (qW dl)), (35, .u32, w.heap.size + 1 + 1 + 1 + 1, qI (qW (fillL (dl.take n))))]))).Nodup := hN2
          refine wpDet_ready (rs := [8]) (by kernel_rfl) (by simp) (AllDet.cons rfl (fun W hW K hK => ?_) AllDet.nil)
          rw [if_pos (by rfl)]
          refine wp_store_row 35 _ _ rfl p1 (nums .u32 (qI (dbl (dbl (qW kl))))) rfl rfl _ _ (hW.at 1 rfl) (info_nums .u32 (qI (dbl (dbl (qW kl)))) infoQ rfl) rfl (nums_one _ _) ?_
          have hA : Hold w ((35, .u32, p2, (qI (dbl (qW kl)))) :: (35, .u32, p1, (qI (dbl (dbl (qW kl))))) :: ((25, .u8, d2, (digest kl (dl.take n))) :: (25, .u8, d1, (digest kl dl)) :: [(25, .u8, w.heap.size, kl), (25, .u8, w.heap.size + 1, dl), (35, .u32, w.heap.size + 1 + 1, qI (qW kl)), (35, .u32, w.heap.size + 1 + 1 + 1, qI (qW dl)), (35, .u32, w.heap.size + 1 + 1 + 1 + 1, qI (qW (fillL (dl.take n))))])) _ := hW.row hN3 1 rfl hG1 ((qI (dbl (dbl (qW kl)))))
          refine hK.out _ _ _ (Hold.stays _ _) (fun _ _ h => h.tail.tail) hA ?_
          clear hK K hA hW
          (try simp only [Act.put, List.getElem_toArray, List.getElem_cons_zero, List.getElem_cons_succ, List.setIfInBounds_toArray, List.set_cons_zero, List.set_cons_succ])
          refine wpDet_done (by kernel_rfl) (fun W hW => ?_) _
          go_wp2_with fail
          go_meet
          case rel => exact ⟨p2, p1, rfl, rfl, hW.sub (fun a ha => swap_mem ha), swap_nodup hN2, hG2, hG1⟩
      case rest =>
        obtain ⟨o1, o2, rfl, rfl, hH, hN, ho1, ho2⟩ := hcut
        go_wp2_with fail
        go_cut [17, 18] from 105 to 106 (fun v1 v2 W => ∃ gx gy : Nat, v1 = .pointer (some ⟨gx, 0, none⟩) ∧ v2 = .pointer (some ⟨gy, 0, none⟩) ∧ Hold w ((35, .u32, gy, (qI (qW kl))) :: (35, .u32, gx, (qI (qW kl))) :: ((35, .u32, o2, (qI (dbl (dbl (qW kl))))) :: (35, .u32, o1, (qI (dbl (qW kl)))) :: ((25, .u8, d2, (digest kl (dl.take n))) :: (25, .u8, d1, (digest kl dl)) :: [(25, .u8, w.heap.size, kl), (25, .u8, w.heap.size + 1, dl), (35, .u32, w.heap.size + 1 + 1, qI (qW kl)), (35, .u32, w.heap.size + 1 + 1 + 1, qI (qW dl)), (35, .u32, w.heap.size + 1 + 1 + 1 + 1, qI (qW (fillL (dl.take n))))]))) W ∧ (places ((35, .u32, gy, (qI (qW kl))) :: (35, .u32, gx, (qI (qW kl))) :: ((35, .u32, o2, (qI (dbl (dbl (qW kl))))) :: (35, .u32, o1, (qI (dbl (qW kl)))) :: ((25, .u8, d2, (digest kl (dl.take n))) :: (25, .u8, d1, (digest kl dl)) :: [(25, .u8, w.heap.size, kl), (25, .u8, w.heap.size + 1, dl), (35, .u32, w.heap.size + 1 + 1, qI (qW kl)), (35, .u32, w.heap.size + 1 + 1 + 1, qI (qW dl)), (35, .u32, w.heap.size + 1 + 1 + 1 + 1, qI (qW (fillL (dl.take n))))])))).Nodup ∧ w.heap.size ≤ gx ∧ w.heap.size ≤ gy)
        case first =>
          refine wp_region_det [0, 1] (Hold w ((35, .u32, o2, (qI (dbl (dbl (qW kl))))) :: (35, .u32, o1, (qI (dbl (qW kl)))) :: ((25, .u8, d2, (digest kl (dl.take n))) :: (25, .u8, d1, (digest kl dl)) :: [(25, .u8, w.heap.size, kl), (25, .u8, w.heap.size + 1, dl), (35, .u32, w.heap.size + 1 + 1, qI (qW kl)), (35, .u32, w.heap.size + 1 + 1 + 1, qI (qW dl)), (35, .u32, w.heap.size + 1 + 1 + 1 + 1, qI (qW (fillL (dl.take n))))]))) (Hold w ((35, .u32, o2, (qI (dbl (dbl (qW kl))))) :: (35, .u32, o1, (qI (dbl (qW kl)))) :: ((25, .u8, d2, (digest kl (dl.take n))) :: (25, .u8, d1, (digest kl dl)) :: [(25, .u8, w.heap.size, kl), (25, .u8, w.heap.size + 1, dl), (35, .u32, w.heap.size + 1 + 1, qI (qW kl)), (35, .u32, w.heap.size + 1 + 1 + 1, qI (qW dl)), (35, .u32, w.heap.size + 1 + 1 + 1 + 1, qI (qW (fillL (dl.take n))))]))) (by kernel_rfl) hH.drew ?_
          refine wpDet_take _ (Hold.stays _ _) (fun _ h => h) (i := 0) rfl (by kernel_rfl) (by kernel_rfl) (by kernel_rfl) (by kernel_rfl) (fun _ _ _ h => h) (Gives.of_yields (yieldsIf_load_mid (by rfl) _ _ rfl _ _ rfl _ _ (fun _ h => (h.at 6 rfl).range) Try.underlying35 rfl hiK)) ?_
          (try simp only [Act.put, List.getElem_toArray, List.getElem_cons_zero, List.getElem_cons_succ, List.setIfInBounds_toArray, List.set_cons_zero, List.set_cons_succ])
          refine wpDet_take _ (Hold.stays _ _) (fun _ h => h) (i := 1) rfl (by kernel_rfl) (by kernel_rfl) (by kernel_rfl) (by kernel_rfl) (fun _ _ _ h => h) (Gives.of_yields (yieldsIf_load_mid (by rfl) _ _ rfl _ _ rfl _ _ (fun _ h => (h.at 6 rfl).range) Try.underlying35 rfl hiK)) ?_
          (try simp only [Act.put, List.getElem_toArray, List.getElem_cons_zero, List.getElem_cons_succ, List.setIfInBounds_toArray, List.set_cons_zero, List.set_cons_succ])
          refine wpDet_ready (rs := [2, 3]) (by kernel_rfl) (by simp) (AllDet.cons rfl (fun W hW K hK => ?_) (AllDet.cons rfl (fun W hW K hK => ?_) AllDet.nil))
          · have hA := hW.new 35 .u32 [0, 0, 0, 0]
            have hN1 := hW.newN hN 35 .u32 [0, 0, 0, 0]
            have hG1 := hW.2.size
            go_simp
            refine hK.out _ _ _ (Hold.stays _ _) (fun _ _ h => h.tail) hA ?_
            clear hK K hA hW
            generalize W.heap.size = p1 at hN1 hG1 ⊢
            (try simp only [Act.put, List.getElem_toArray, List.getElem_cons_zero, List.getElem_cons_succ, List.setIfInBounds_toArray, List.set_cons_zero, List.set_cons_succ])
            refine wpDet_ready (rs := [3]) (by kernel_rfl) (by simp) (AllDet.cons rfl (fun W hW K hK => ?_) AllDet.nil)
            have hA := hW.new 35 .u32 [0, 0, 0, 0]
            have hN2 := hW.newN hN1 35 .u32 [0, 0, 0, 0]
            have hG2 := hW.2.size
            go_simp
            refine hK.out _ _ _ (Hold.stays _ _) (fun _ _ h => h.tail.tail) hA ?_
            clear hK K hA hW
            generalize W.heap.size = p2 at hN2 hG2 ⊢
            (try simp only [Act.put, List.getElem_toArray, List.getElem_cons_zero, List.getElem_cons_succ, List.setIfInBounds_toArray, List.set_cons_zero, List.set_cons_succ])
            refine wpDet_ready (rs := [4]) (by kernel_rfl) (by simp) (AllDet.cons rfl (fun W hW K hK => ?_) AllDet.nil)
            rw [if_pos (by rfl)]
            refine wp_store_row 35 _ _ rfl p1 (nums .u32 (qI (qW kl))) rfl rfl _ _ (hW.at 1 rfl) (info_nums .u32 (qI (qW kl)) infoQ rfl) rfl (nums_one _ _) ?_
            have hA : Hold w ((35, .u32, p2, [0, 0, 0, 0]) :: (35, .u32, p1, (qI (qW kl))) :: ((35, .u32, o2, (qI (dbl (dbl (qW kl))))) :: (35, .u32, o1, (qI (dbl (qW kl)))) :: ((25, .u8, d2, (digest kl (dl.take n))) :: (25, .u8, d1, (digest kl dl)) :: [(25, .u8, w.heap.size, kl), (25, .u8, w.heap.size + 1, dl), (35, .u32, w.heap.size + 1 + 1, qI (qW kl)), (35, .u32, w.heap.size + 1 + 1 + 1, qI (qW dl)), (35, .u32, w.heap.size + 1 + 1 + 1 + 1, qI (qW (fillL (dl.take n))))]))) _ := hW.row hN2 1 rfl hG1 ((qI (qW kl)))
            refine hK.out _ _ _ (Hold.stays _ _) (fun _ _ h => h.tail.tail) hA ?_
            clear hK K hA hW
            (try simp only [Act.put, List.getElem_toArray, List.getElem_cons_zero, List.getElem_cons_succ, List.setIfInBounds_toArray, List.set_cons_zero, List.set_cons_succ])
            have hN3 : (places ((35, .u32, p2, [0, 0, 0, 0]) :: (35, .u32, p1, (qI (qW kl))) :: ((35, .u32, o2, (qI (dbl (dbl (qW kl))))) :: (35, .u32, o1, (qI (dbl (qW kl)))) :: ((25, .u8, d2, (digest kl (dl.take n))) :: (25, .u8, d1, (digest kl dl)) :: [(25, .u8, w.heap.size, kl), (25, .u8, w.heap.size + 1, dl), (35, .u32, w.heap.size + 1 + 1, qI (qW kl)), (35, .u32, w.heap.size + 1 + 1 + 1, qI (qW dl)), (35, .u32, w.heap.size + 1 + 1 + 1 + 1, qI (qW (fillL (dl.take n))))])))).Nodup := hN2
            refine wpDet_ready (rs := [5]) (by kernel_rfl) (by simp) (AllDet.cons rfl (fun W hW K hK => ?_) AllDet.nil)
            rw [if_pos (by rfl)]
            refine wp_store_row 35 _ _ rfl p2 (nums .u32 (qI (qW kl))) rfl rfl _ _ (hW.at 0 rfl) (info_nums .u32 (qI (qW kl)) infoQ rfl) rfl (nums_one _ _) ?_
            have hA : Hold w ((35, .u32, p2, (qI (qW kl))) :: (35, .u32, p1, (qI (qW kl))) :: ((35, .u32, o2, (qI (dbl (dbl (qW kl))))) :: (35, .u32, o1, (qI (dbl (qW kl)))) :: ((25, .u8, d2, (digest kl (dl.take n))) :: (25, .u8, d1, (digest kl dl)) :: [(25, .u8, w.heap.size, kl), (25, .u8, w.heap.size + 1, dl), (35, .u32, w.heap.size + 1 + 1, qI (qW kl)), (35, .u32, w.heap.size + 1 + 1 + 1, qI (qW dl)), (35, .u32, w.heap.size + 1 + 1 + 1 + 1, qI (qW (fillL (dl.take n))))]))) _ := hW.row hN3 0 rfl hG2 ((qI (qW kl)))
            refine hK.out _ _ _ (Hold.stays _ _) (fun _ _ h => h.tail.tail) hA ?_
            clear hK K hA hW
            (try simp only [Act.put, List.getElem_toArray, List.getElem_cons_zero, List.getElem_cons_succ, List.setIfInBounds_toArray, List.set_cons_zero, List.set_cons_succ])
            refine wpDet_done (by kernel_rfl) (fun W hW => ?_) _
            go_wp2_with fail
            go_meet
            case rel => exact ⟨p1, p2, rfl, rfl, hW, hN2, hG1, hG2⟩
          · have hA := hW.new 35 .u32 [0, 0, 0, 0]
            have hN1 := hW.newN hN 35 .u32 [0, 0, 0, 0]
            have hG1 := hW.2.size
            go_simp
            refine hK.out _ _ _ (Hold.stays _ _) (fun _ _ h => h.tail) hA ?_
            clear hK K hA hW
            generalize W.heap.size = p1 at hN1 hG1 ⊢
            (try simp only [Act.put, List.getElem_toArray, List.getElem_cons_zero, List.getElem_cons_succ, List.setIfInBounds_toArray, List.set_cons_zero, List.set_cons_succ])
            refine wpDet_ready (rs := [2]) (by kernel_rfl) (by simp) (AllDet.cons rfl (fun W hW K hK => ?_) AllDet.nil)
            have hA := hW.new 35 .u32 [0, 0, 0, 0]
            have hN2 := hW.newN hN1 35 .u32 [0, 0, 0, 0]
            have hG2 := hW.2.size
            go_simp
            refine hK.out _ _ _ (Hold.stays _ _) (fun _ _ h => h.tail.tail) hA ?_
            clear hK K hA hW
            generalize W.heap.size = p2 at hN2 hG2 ⊢
            (try simp only [Act.put, List.getElem_toArray, List.getElem_cons_zero, List.getElem_cons_succ, List.setIfInBounds_toArray, List.set_cons_zero, List.set_cons_succ])
            refine wpDet_ready (rs := [4]) (by kernel_rfl) (by simp) (AllDet.cons rfl (fun W hW K hK => ?_) AllDet.nil)
            rw [if_pos (by rfl)]
            refine wp_store_row 35 _ _ rfl p2 (nums .u32 (qI (qW kl))) rfl rfl _ _ (hW.at 0 rfl) (info_nums .u32 (qI (qW kl)) infoQ rfl) rfl (nums_one _ _) ?_
            have hA : Hold w ((35, .u32, p2, (qI (qW kl))) :: (35, .u32, p1, [0, 0, 0, 0]) :: ((35, .u32, o2, (qI (dbl (dbl (qW kl))))) :: (35, .u32, o1, (qI (dbl (qW kl)))) :: ((25, .u8, d2, (digest kl (dl.take n))) :: (25, .u8, d1, (digest kl dl)) :: [(25, .u8, w.heap.size, kl), (25, .u8, w.heap.size + 1, dl), (35, .u32, w.heap.size + 1 + 1, qI (qW kl)), (35, .u32, w.heap.size + 1 + 1 + 1, qI (qW dl)), (35, .u32, w.heap.size + 1 + 1 + 1 + 1, qI (qW (fillL (dl.take n))))]))) _ := hW.row hN2 0 rfl hG2 ((qI (qW kl)))
            refine hK.out _ _ _ (Hold.stays _ _) (fun _ _ h => h.tail.tail) hA ?_
            clear hK K hA hW
            (try simp only [Act.put, List.getElem_toArray, List.getElem_cons_zero, List.getElem_cons_succ, List.setIfInBounds_toArray, List.set_cons_zero, List.set_cons_succ])
            have hN3 : (places ((35, .u32, p2, (qI (qW kl))) :: (35, .u32, p1, [0, 0, 0, 0]) :: ((35, .u32, o2, (qI (dbl (dbl (qW kl))))) :: (35, .u32, o1, (qI (dbl (qW kl)))) :: ((25, .u8, d2, (digest kl (dl.take n))) :: (25, .u8, d1, (digest kl dl)) :: [(25, .u8, w.heap.size, kl), (25, .u8, w.heap.size + 1, dl), (35, .u32, w.heap.size + 1 + 1, qI (qW kl)), (35, .u32, w.heap.size + 1 + 1 + 1, qI (qW dl)), (35, .u32, w.heap.size + 1 + 1 + 1 + 1, qI (qW (fillL (dl.take n))))])))).Nodup := hN2
            refine wpDet_ready (rs := [5]) (by kernel_rfl) (by simp) (AllDet.cons rfl (fun W hW K hK => ?_) AllDet.nil)
            rw [if_pos (by rfl)]
            refine wp_store_row 35 _ _ rfl p1 (nums .u32 (qI (qW kl))) rfl rfl _ _ (hW.at 1 rfl) (info_nums .u32 (qI (qW kl)) infoQ rfl) rfl (nums_one _ _) ?_
            have hA : Hold w ((35, .u32, p2, (qI (qW kl))) :: (35, .u32, p1, (qI (qW kl))) :: ((35, .u32, o2, (qI (dbl (dbl (qW kl))))) :: (35, .u32, o1, (qI (dbl (qW kl)))) :: ((25, .u8, d2, (digest kl (dl.take n))) :: (25, .u8, d1, (digest kl dl)) :: [(25, .u8, w.heap.size, kl), (25, .u8, w.heap.size + 1, dl), (35, .u32, w.heap.size + 1 + 1, qI (qW kl)), (35, .u32, w.heap.size + 1 + 1 + 1, qI (qW dl)), (35, .u32, w.heap.size + 1 + 1 + 1 + 1, qI (qW (fillL (dl.take n))))]))) _ := hW.row hN3 1 rfl hG1 ((qI (qW kl)))
            refine hK.out _ _ _ (Hold.stays _ _) (fun _ _ h => h.tail.tail) hA ?_
            clear hK K hA hW
            (try simp only [Act.put, List.getElem_toArray, List.getElem_cons_zero, List.getElem_cons_succ, List.setIfInBounds_toArray, List.set_cons_zero, List.set_cons_succ])
            refine wpDet_done (by kernel_rfl) (fun W hW => ?_) _
            go_wp2_with fail
            go_meet
            case rel => exact ⟨p2, p1, rfl, rfl, hW.sub (fun a ha => swap_mem ha), swap_nodup hN2, hG2, hG1⟩
        case rest =>
          clear hH hN
          obtain ⟨gx, gy, rfl, rfl, hH, hN, hgx, hgy⟩ := hcut
          have hqd := qW_lt hdb
          have hqf := qW_lt (fill_by (hdb.take n))
          have hq1 := dbl_lt hqk
          have hq2 := dbl_lt hq1
          have hD1 := digest_full (kl := kl) hdl
          have hD2 := digest_part (kl := kl) hdl hnl
          rw [← xr_assoc] at hD1 hD2
          rw [hD1, hD2] at hH
          generalize hk1 : dbl (qW kl) = kd1 at *
          generalize hk2 : dbl kd1 = kd2 at *
          generalize qW kl = kq at *
          generalize qW dl = wd at *
          generalize qW (fillL (dl.take n)) = vd at *
          generalize hdg1 : digest kl dl = DG1 at *
          generalize hdg2 : digest kl (dl.take n) = DG2 at *
          subst hD1 hD2
          clear hk1 hk2 hdg1 hdg2 cD1 cD2 cP hiK hW6 d1N d2N hlk hld
          go_wp2_with fail
          have hH2 : Hold w [(35, .u32, gy, qI kq), (35, .u32, gx, qI kq), (35, .u32, o2, qI kd2), (35, .u32, o1, qI kd1), (25, .u8, d2, qB (xr (stirN 12 (xr kq (xr vd kd2))) kd2)), (25, .u8, d1, qB (xr (stirN 12 (xr kq (xr wd kd1))) kd1)), (35, .u32, w.heap.size + 1 + 1 + 1, qI wd), (35, .u32, w.heap.size + 1 + 1 + 1 + 1, qI vd)] _ := hH.sub (fun a ha => pick_mem ha)
          have hN2 : (places [(35, .u32, gy, qI kq), (35, .u32, gx, qI kq), (35, .u32, o2, qI kd2), (35, .u32, o1, qI kd1), (25, .u8, d2, qB (xr (stirN 12 (xr kq (xr vd kd2))) kd2)), (25, .u8, d1, qB (xr (stirN 12 (xr kq (xr wd kd1))) kd1)), (35, .u32, w.heap.size + 1 + 1 + 1, qI wd), (35, .u32, w.heap.size + 1 + 1 + 1 + 1, qI vd)]).Nodup := pick_nodup hN
          clear hH hN
          have hgW : w.heap.size ≤ w.heap.size + 1 + 1 + 1 := by omega
          generalize w.heap.size + 1 + 1 + 1 + 1 = gV at *
          generalize w.heap.size + 1 + 1 + 1 = gW at *
          rename_i W8 _
          go_loopw [107] (fun i wr => ∃ k : Nat, k ≤ 4 ∧ i = .int .i64 k ∧ Hold w [(35, .u32, gy, xrL (qI kq) (qI (xr vd kd2)) k), (35, .u32, gx, xrL (qI kq) (qI (xr wd kd1)) k), (35, .u32, o2, qI kd2), (35, .u32, o1, qI kd1), (25, .u8, d2, qB (xr (stirN 12 (xr kq (xr vd kd2))) kd2)), (25, .u8, d1, qB (xr (stirN 12 (xr kq (xr wd kd1))) kd1)), (35, .u32, gW, qI wd), (35, .u32, gV, qI vd)] wr) (fun i _ => 4 - (intOf i).toNat)
          case atStart => exact ⟨0, by omega, rfl, hH2⟩
          case round =>
            clear hH2
            obtain ⟨k, hk, rfl, hH⟩ := hrel
            by_cases h4 : k < 4
            · have hN : (places [(35, .u32, gy, xrL (qI kq) (qI (xr vd kd2)) k), (35, .u32, gx, xrL (qI kq) (qI (xr wd kd1)) k), (35, .u32, o2, qI kd2), (35, .u32, o1, qI kd1), (25, .u8, d2, qB (xr (stirN 12 (xr kq (xr vd kd2))) kd2)), (25, .u8, d1, qB (xr (stirN 12 (xr kq (xr wd kd1))) kd1)), (35, .u32, gW, qI wd), (35, .u32, gV, qI vd)]).Nodup := hN2
              have hk4 : (k : Int) < 4 := by omega
              obtain ⟨a1, ea1, la1⟩ := qI_word hqk k h4
              obtain ⟨c1, ec1, lc1⟩ := qI_word hq1 k h4
              have hca1 := (hH.at 1 rfl).cell (i := k) (by rw [xrL_len]; exact h4)
              rw [xrL_get _ _ _ h4, ea1] at hca1
              have hcc1 := (hH.at 3 rfl).cell (i := k) h4
              rw [ec1] at hcc1
              have hf1 := (hH.at 1 rfl).free k
              obtain ⟨b1, eb1, lb1⟩ := qI_word hqd k h4
              have hcb1 := (hH.at 6 rfl).cell (i := k) h4
              rw [eb1] at hcb1
              have hy1 : (qI (xr wd kd1)).getD k 0 = ((b1 ^^^ c1 : Nat) : Int) := by rw [qI_xr _ _ k h4, eb1, ec1]; rfl
              have hx1 := xor_eq lb1 lc1 (z := b1 ^^^ c1) rfl
              have hz1 := xor_eq la1 (xor32 lb1 lc1) (z := a1 ^^^ (b1 ^^^ c1)) rfl
              have hT1 := hH.set hN 1 rfl hgx k ((a1 ^^^ (b1 ^^^ c1) : Nat) : Int)
              have hw1 := xrL_set (qI kq) (qI (xr wd kd1)) k
              rw [ea1, hy1, Int.toNat_natCast, Int.toNat_natCast] at hw1
              rw [hw1] at hT1
              have hS1 : Hold w [(35, .u32, gy, xrL (qI kq) (qI (xr vd kd2)) k), (35, .u32, gx, xrL (qI kq) (qI (xr wd kd1)) (k + 1)), (35, .u32, o2, qI kd2), (35, .u32, o1, qI kd1), (25, .u8, d2, qB (xr (stirN 12 (xr kq (xr vd kd2))) kd2)), (25, .u8, d1, qB (xr (stirN 12 (xr kq (xr wd kd1))) kd1)), (35, .u32, gW, qI wd), (35, .u32, gV, qI vd)] _ := hT1.drew
              clear hT1 hw1 hH ea1 ec1 eb1 hy1
              generalize a1 ^^^ (b1 ^^^ c1) = z1 at hz1 hS1
              generalize b1 ^^^ c1 = y1 at hx1 hz1
              go_wp2_with fail
              apply wp_meet
              · go_region
                all_goals exact Meet.mk
              generalize (wr.setCell ⟨gx, k, none⟩ (.int .u32 (z1 : Int))).drew = W1 at hS1 ⊢
              clear hz1 hca1 hcc1 hf1 hcb1 hx1
              have hN : (places [(35, .u32, gy, xrL (qI kq) (qI (xr vd kd2)) k), (35, .u32, gx, xrL (qI kq) (qI (xr wd kd1)) (k + 1)), (35, .u32, o2, qI kd2), (35, .u32, o1, qI kd1), (25, .u8, d2, qB (xr (stirN 12 (xr kq (xr vd kd2))) kd2)), (25, .u8, d1, qB (xr (stirN 12 (xr kq (xr wd kd1))) kd1)), (35, .u32, gW, qI wd), (35, .u32, gV, qI vd)]).Nodup := hN2
              obtain ⟨a2, ea2, la2⟩ := qI_word hqk k h4
              obtain ⟨c2, ec2, lc2⟩ := qI_word hq2 k h4
              have hca2 := (hS1.at 0 rfl).cell (i := k) (by rw [xrL_len]; exact h4)
              rw [xrL_get _ _ _ h4, ea2] at hca2
              have hcc2 := (hS1.at 2 rfl).cell (i := k) h4
              rw [ec2] at hcc2
              have hf2 := (hS1.at 0 rfl).free k
              obtain ⟨b2, eb2, lb2⟩ := qI_word hqf k h4
              have hcb2 := (hS1.at 7 rfl).cell (i := k) h4
              rw [eb2] at hcb2
              have hy2 : (qI (xr vd kd2)).getD k 0 = ((b2 ^^^ c2 : Nat) : Int) := by rw [qI_xr _ _ k h4, eb2, ec2]; rfl
              have hx2 := xor_eq lb2 lc2 (z := b2 ^^^ c2) rfl
              have hz2 := xor_eq la2 (xor32 lb2 lc2) (z := a2 ^^^ (b2 ^^^ c2)) rfl
              have hT2 := hS1.set hN 0 rfl hgy k ((a2 ^^^ (b2 ^^^ c2) : Nat) : Int)
              have hw2 := xrL_set (qI kq) (qI (xr vd kd2)) k
              rw [ea2, hy2, Int.toNat_natCast, Int.toNat_natCast] at hw2
              rw [hw2] at hT2
              have hS2 : Hold w [(35, .u32, gy, xrL (qI kq) (qI (xr vd kd2)) (k + 1)), (35, .u32, gx, xrL (qI kq) (qI (xr wd kd1)) (k + 1)), (35, .u32, o2, qI kd2), (35, .u32, o1, qI kd1), (25, .u8, d2, qB (xr (stirN 12 (xr kq (xr vd kd2))) kd2)), (25, .u8, d1, qB (xr (stirN 12 (xr kq (xr wd kd1))) kd1)), (35, .u32, gW, qI wd), (35, .u32, gV, qI vd)] _ := hT2.drew
              clear hT2 hw2 hS1 ea2 ec2 eb2 hy2
              generalize a2 ^^^ (b2 ^^^ c2) = z2 at hz2 hS2
              generalize b2 ^^^ c2 = y2 at hx2 hz2
              go_wp2_with fail
              apply wp_meet
              · go_region
                all_goals exact Meet.mk
              generalize (W1.setCell ⟨gy, k, none⟩ (.int .u32 (z2 : Int))).drew = W2 at hS2 ⊢
              clear hz2 hca2 hcc2 hf2 hcb2 hx2
              go_wp2_with fail
              go_roundw
              case rel => exact ⟨k + 1, by omega, by go_num, hS2⟩
              case measure => simp [intOf]; omega
            · obtain rfl : k = 4 := by omega
              rw [xrL_end, xrL_end] at hH
              have hxq := xr_lt hqk (xr_lt hqd hq1)
              have hyq := xr_lt hqk (xr_lt hqf hq2)
              have hsx := stirN_lt hxq 12
              have hsy := stirN_lt hyq 12
              have cSx := fun W => stir_any (xr kq (xr wd kd1)) W hxq
              have cSy := fun W => stir_any (xr kq (xr vd kd2)) W hyq
              generalize xr kq (xr wd kd1) = xq at *
              generalize xr kq (xr vd kd2) = yq at *
              clear hqd hqf hqk
              go_wp2_with fail
              refine wp_region_det [0, 1] (Hold w [(35, .u32, gy, qI yq), (35, .u32, gx, qI xq), (35, .u32, o2, qI kd2), (35, .u32, o1, qI kd1), (25, .u8, d2, qB (xr (stirN 12 yq) kd2)), (25, .u8, d1, qB (xr (stirN 12 xq) kd1)), (35, .u32, gW, qI wd), (35, .u32, gV, qI vd)]) (Hold w [(35, .u32, gy, qI yq), (35, .u32, gx, qI xq), (35, .u32, o2, qI kd2), (35, .u32, o1, qI kd1), (25, .u8, d2, qB (xr (stirN 12 yq) kd2)), (25, .u8, d1, qB (xr (stirN 12 xq) kd1)), (35, .u32, gW, qI wd), (35, .u32, gV, qI vd)]) (by kernel_rfl) hH.drew ?_
              refine wpDet_take _ (Hold.stays _ _) (fun _ h => h) (i := 0) rfl (by kernel_rfl) (by kernel_rfl) (by kernel_rfl) (by kernel_rfl) (fun _ _ _ h => h) (Gives.of_yields (yieldsIf_load_mid (by rfl) _ _ rfl _ _ rfl _ _ (fun _ h => (h.at 1 rfl).range) Try.underlying35 rfl infoQ)) ?_
              (try simp only [Act.put, List.getElem_toArray, List.getElem_cons_zero, List.getElem_cons_succ, List.setIfInBounds_toArray, List.set_cons_zero, List.set_cons_succ])
              refine wpDet_take (.agg (qA (stirN 12 xq))) (Hold.stays _ _) (fun _ h => h) (i := 1) rfl (by kernel_rfl) (by kernel_rfl) (by kernel_rfl) (by kernel_rfl) (fun _ _ _ h => h) (Gives.call 14 #[.agg (qA xq)] (by rfl) (fun _ => by first | (go_simp; done) | (go_simp; rfl)) (fun W hW => cSx W)) ?_
              (try simp only [Act.put, List.getElem_toArray, List.getElem_cons_zero, List.getElem_cons_succ, List.setIfInBounds_toArray, List.set_cons_zero, List.set_cons_succ])
              refine wpDet_ready (rs := [2]) (by kernel_rfl) (by simp) (AllDet.cons rfl (fun W hW K hK => ?_) AllDet.nil)
              rw [if_pos (by rfl)]
              refine wp_load_row 35 _ rfl gy rfl _ _ _ _ (hW.at 0 rfl) Try.underlying35 rfl (info_nums .u32 (qI yq) infoQ rfl) ?_
              refine hK.out _ _ _ (Hold.stays _ _) (fun _ _ h => h) hW ?_
              clear hK K hW
              (try simp only [Act.put, List.getElem_toArray, List.getElem_cons_zero, List.getElem_cons_succ, List.setIfInBounds_toArray, List.set_cons_zero, List.set_cons_succ])
              refine wpDet_ready (rs := [3]) (by kernel_rfl) (by simp) (AllDet.cons rfl (fun W hW K hK => ?_) AllDet.nil)
              go_simp
              refine (cSy W).mono ?_
              rintro e W' ⟨rfl, hb⟩
              go_wp2_with fail
              refine hK.out _ _ _ (Hold.stays _ _) (fun _ _ h => h) (hW.below hb) ?_
              clear hK K hW hb
              (try simp only [Act.put, List.getElem_toArray, List.getElem_cons_zero, List.getElem_cons_succ, List.setIfInBounds_toArray, List.set_cons_zero, List.set_cons_succ])
              refine wpDet_ready (rs := [4]) (by kernel_rfl) (by simp) (AllDet.cons rfl (fun W hW K hK => ?_) AllDet.nil)
              rw [if_pos (by rfl)]
              refine wp_store_row 35 _ _ rfl gx (nums .u32 (qI (stirN 12 xq))) rfl rfl _ _ (hW.at 1 rfl) (info_nums .u32 (qI (stirN 12 xq)) infoQ rfl) rfl (nums_one _ _) ?_
              have hN : (places [(35, .u32, gy, qI yq), (35, .u32, gx, qI xq), (35, .u32, o2, qI kd2), (35, .u32, o1, qI kd1), (25, .u8, d2, qB (xr (stirN 12 yq) kd2)), (25, .u8, d1, qB (xr (stirN 12 xq) kd1)), (35, .u32, gW, qI wd), (35, .u32, gV, qI vd)]).Nodup := hN2
              have hA : Hold w [(35, .u32, gy, qI yq), (35, .u32, gx, qI (stirN 12 xq)), (35, .u32, o2, qI kd2), (35, .u32, o1, qI kd1), (25, .u8, d2, qB (xr (stirN 12 yq) kd2)), (25, .u8, d1, qB (xr (stirN 12 xq) kd1)), (35, .u32, gW, qI wd), (35, .u32, gV, qI vd)] _ := hW.row hN 1 rfl hgx (qI (stirN 12 xq))
              refine hK.out _ _ _ (Hold.stays _ _) (no_lean (by kernel_rfl)) hA ?_
              clear hK K hA hW hN
              (try simp only [Act.put, List.getElem_toArray, List.getElem_cons_zero, List.getElem_cons_succ, List.setIfInBounds_toArray, List.set_cons_zero, List.set_cons_succ])
              refine wpDet_ready (rs := [5]) (by kernel_rfl) (by simp) (AllDet.cons rfl (fun W hW K hK => ?_) AllDet.nil)
              rw [if_pos (by rfl)]
              refine wp_store_row 35 _ _ rfl gy (nums .u32 (qI (stirN 12 yq))) rfl rfl _ _ (hW.at 0 rfl) (info_nums .u32 (qI (stirN 12 yq)) infoQ rfl) rfl (nums_one _ _) ?_
              have hN : (places [(35, .u32, gy, qI yq), (35, .u32, gx, qI (stirN 12 xq)), (35, .u32, o2, qI kd2), (35, .u32, o1, qI kd1), (25, .u8, d2, qB (xr (stirN 12 yq) kd2)), (25, .u8, d1, qB (xr (stirN 12 xq) kd1)), (35, .u32, gW, qI wd), (35, .u32, gV, qI vd)]).Nodup := hN2
              have hA : Hold w [(35, .u32, gy, qI (stirN 12 yq)), (35, .u32, gx, qI (stirN 12 xq)), (35, .u32, o2, qI kd2), (35, .u32, o1, qI kd1), (25, .u8, d2, qB (xr (stirN 12 yq) kd2)), (25, .u8, d1, qB (xr (stirN 12 xq) kd1)), (35, .u32, gW, qI wd), (35, .u32, gV, qI vd)] _ := hW.row hN 0 rfl hgy (qI (stirN 12 yq))
              refine hK.out _ _ _ (Hold.stays _ _) (no_lean (by kernel_rfl)) hA ?_
              clear hK K hA hW hN
              (try simp only [Act.put, List.getElem_toArray, List.getElem_cons_zero, List.getElem_cons_succ, List.setIfInBounds_toArray, List.set_cons_zero, List.set_cons_succ])
              refine wpDet_done (by kernel_rfl) (fun W9 hW => ?_) _
              clear hH cSx cSy hxq hyq
              generalize stirN 12 xq = sx at *
              generalize stirN 12 yq = sy at *
              go_wp2_with fail
              go_loopw [139] (fun i wr => ∃ k : Nat, k ≤ 4 ∧ i = .int .i64 k ∧ Hold w [(35, .u32, gy, xrL (qI sy) (qI kd2) k), (35, .u32, gx, xrL (qI sx) (qI kd1) k), (35, .u32, o2, qI kd2), (35, .u32, o1, qI kd1), (25, .u8, d2, qB (xr sy kd2)), (25, .u8, d1, qB (xr sx kd1)), (35, .u32, gW, qI wd), (35, .u32, gV, qI vd)] wr) (fun i _ => 4 - (intOf i).toNat)
              case atStart => exact ⟨0, by omega, rfl, hW⟩
              case round =>
                clear hW
                obtain ⟨k, hk, rfl, hH⟩ := hrel
                by_cases h4 : k < 4
                · have hN : (places [(35, .u32, gy, xrL (qI sy) (qI kd2) k), (35, .u32, gx, xrL (qI sx) (qI kd1) k), (35, .u32, o2, qI kd2), (35, .u32, o1, qI kd1), (25, .u8, d2, qB (xr sy kd2)), (25, .u8, d1, qB (xr sx kd1)), (35, .u32, gW, qI wd), (35, .u32, gV, qI vd)]).Nodup := hN2
                  have hk4 : (k : Int) < 4 := by omega
                  obtain ⟨a3, ea3, la3⟩ := qI_word hsx k h4
                  obtain ⟨c3, ec3, lc3⟩ := qI_word hq1 k h4
                  have hca3 := (hH.at 1 rfl).cell (i := k) (by rw [xrL_len]; exact h4)
                  rw [xrL_get _ _ _ h4, ea3] at hca3
                  have hcc3 := (hH.at 3 rfl).cell (i := k) h4
                  rw [ec3] at hcc3
                  have hf3 := (hH.at 1 rfl).free k
                  have hz3 := xor_eq la3 lc3 (z := a3 ^^^ c3) rfl
                  have hT3 := hH.set hN 1 rfl hgx k ((a3 ^^^ c3 : Nat) : Int)
                  have hw3 := xrL_set (qI sx) (qI kd1) k
                  rw [ea3, ec3, Int.toNat_natCast, Int.toNat_natCast] at hw3
                  rw [hw3] at hT3
                  have hS3 : Hold w [(35, .u32, gy, xrL (qI sy) (qI kd2) k), (35, .u32, gx, xrL (qI sx) (qI kd1) (k + 1)), (35, .u32, o2, qI kd2), (35, .u32, o1, qI kd1), (25, .u8, d2, qB (xr sy kd2)), (25, .u8, d1, qB (xr sx kd1)), (35, .u32, gW, qI wd), (35, .u32, gV, qI vd)] _ := hT3.drew
                  clear hT3 hw3 hH ea3 ec3 
                  generalize a3 ^^^ c3 = z3 at hz3 hS3
                  go_wp2_with fail
                  apply wp_meet
                  · go_region
                    all_goals exact Meet.mk
                  generalize (wr.setCell ⟨gx, k, none⟩ (.int .u32 (z3 : Int))).drew = W3 at hS3 ⊢
                  clear hz3 hca3 hcc3 hf3 
                  have hN : (places [(35, .u32, gy, xrL (qI sy) (qI kd2) k), (35, .u32, gx, xrL (qI sx) (qI kd1) (k + 1)), (35, .u32, o2, qI kd2), (35, .u32, o1, qI kd1), (25, .u8, d2, qB (xr sy kd2)), (25, .u8, d1, qB (xr sx kd1)), (35, .u32, gW, qI wd), (35, .u32, gV, qI vd)]).Nodup := hN2
                  obtain ⟨a4, ea4, la4⟩ := qI_word hsy k h4
                  obtain ⟨c4, ec4, lc4⟩ := qI_word hq2 k h4
                  have hca4 := (hS3.at 0 rfl).cell (i := k) (by rw [xrL_len]; exact h4)
                  rw [xrL_get _ _ _ h4, ea4] at hca4
                  have hcc4 := (hS3.at 2 rfl).cell (i := k) h4
                  rw [ec4] at hcc4
                  have hf4 := (hS3.at 0 rfl).free k
                  have hz4 := xor_eq la4 lc4 (z := a4 ^^^ c4) rfl
                  have hT4 := hS3.set hN 0 rfl hgy k ((a4 ^^^ c4 : Nat) : Int)
                  have hw4 := xrL_set (qI sy) (qI kd2) k
                  rw [ea4, ec4, Int.toNat_natCast, Int.toNat_natCast] at hw4
                  rw [hw4] at hT4
                  have hS4 : Hold w [(35, .u32, gy, xrL (qI sy) (qI kd2) (k + 1)), (35, .u32, gx, xrL (qI sx) (qI kd1) (k + 1)), (35, .u32, o2, qI kd2), (35, .u32, o1, qI kd1), (25, .u8, d2, qB (xr sy kd2)), (25, .u8, d1, qB (xr sx kd1)), (35, .u32, gW, qI wd), (35, .u32, gV, qI vd)] _ := hT4.drew
                  clear hT4 hw4 hS3 ea4 ec4 
                  generalize a4 ^^^ c4 = z4 at hz4 hS4
                  go_wp2_with fail
                  apply wp_meet
                  · go_region
                    all_goals exact Meet.mk
                  generalize (W3.setCell ⟨gy, k, none⟩ (.int .u32 (z4 : Int))).drew = W4 at hS4 ⊢
                  clear hz4 hca4 hcc4 hf4 
                  go_wp2_with fail
                  go_roundw
                  case rel => exact ⟨k + 1, by omega, by go_num, hS4⟩
                  case measure => simp [intOf]; omega
                · obtain rfl : k = 4 := by omega
                  rw [xrL_end, xrL_end] at hH
                  have hfx := xr_lt hsx hq1
                  have hfy := xr_lt hsy hq2
                  generalize xr sx kd1 = fx at *
                  generalize xr sy kd2 = fy at *
                  have cBx := fun W => bytes16_any fx W hfx
                  have cBy := fun W => bytes16_any fy W hfy
                  have q1 := fun W => eql16 (qB fx) (qB fx) (qB_len _) (qB_len _) W
                  have q2 := fun W => eql16 (qB fy) (qB fy) (qB_len _) (qB_len _) W
                  rw [decide_eq_true rfl] at q1 q2
                  have hlx : (qB fx).length = 16 := qB_len _
                  have hly : (qB fy).length = 16 := qB_len _
                  generalize qB fx = bx at *
                  generalize qB fy = by_ at *
                  have hibx : (Try.prog.info? 25).map (·.size) = some (bx.map (Value.int .u8)).length := by rw [List.length_map, hlx]; exact infoB
                  have hiby : (Try.prog.info? 25).map (·.size) = some (by_.map (Value.int .u8)).length := by rw [List.length_map, hly]; exact infoB
                  go_wp2_with fail
                  refine wp_region_det [0, 1, 2, 3, 4, 5, 6, 7, 8, 9, 10, 11, 12, 13, 14, 15, 16, 17, 18, 19, 20, 21] (Hold w [(35, .u32, gy, qI fy), (35, .u32, gx, qI fx), (35, .u32, o2, qI kd2), (35, .u32, o1, qI kd1), (25, .u8, d2, by_), (25, .u8, d1, bx), (35, .u32, gW, qI wd), (35, .u32, gV, qI vd)]) (Hold w [(35, .u32, gy, qI fy), (35, .u32, gx, qI fx), (35, .u32, o2, qI kd2), (35, .u32, o1, qI kd1), (25, .u8, d2, by_), (25, .u8, d1, bx), (35, .u32, gW, qI wd), (35, .u32, gV, qI vd)]) (by kernel_rfl) hH.drew ?_
                  refine wpDet_take ?vJ0 (Hold.stays _ _) (fun _ h => h) (i := 0) rfl (by kernel_rfl) (by kernel_rfl) (by kernel_rfl) (by kernel_rfl) (fun _ _ _ h => h) (Gives.value (by rfl) ?yJ0) ?rJ0
                  case yJ0 => (intro w' hSw; (try dsimp only at hSw); go_simp; try with_reducible rfl)
                  (try simp only [Act.put, List.getElem_toArray, List.getElem_cons_zero, List.getElem_cons_succ, List.setIfInBounds_toArray, List.set_cons_zero, List.set_cons_succ])
                  refine wpDet_take ?vJ1 (Hold.stays _ _) (fun _ h => h) (i := 1) rfl (by kernel_rfl) (by kernel_rfl) (by kernel_rfl) (by kernel_rfl) (fun _ _ _ h => h) (Gives.value (by rfl) ?yJ1) ?rJ1
                  case yJ1 => (intro w' hSw; (try dsimp only at hSw); go_simp; try with_reducible rfl)
                  (try simp only [Act.put, List.getElem_toArray, List.getElem_cons_zero, List.getElem_cons_succ, List.setIfInBounds_toArray, List.set_cons_zero, List.set_cons_succ])
                  refine wpDet_take ?vJ2 (Hold.stays _ _) (fun _ h => h) (i := 2) rfl (by kernel_rfl) (by kernel_rfl) (by kernel_rfl) (by kernel_rfl) (fun _ _ _ h => h) (Gives.value (by rfl) ?yJ2) ?rJ2
                  case yJ2 => (intro w' hSw; (try dsimp only at hSw); go_simp; try with_reducible rfl)
                  (try simp only [Act.put, List.getElem_toArray, List.getElem_cons_zero, List.getElem_cons_succ, List.setIfInBounds_toArray, List.set_cons_zero, List.set_cons_succ])
                  refine wpDet_take ?vJ3 (Hold.stays _ _) (fun _ h => h) (i := 3) rfl (by kernel_rfl) (by kernel_rfl) (by kernel_rfl) (by kernel_rfl) (fun _ _ _ h => h) (Gives.value (by rfl) ?yJ3) ?rJ3
                  case yJ3 => (intro w' hSw; (try dsimp only at hSw); go_simp; try with_reducible rfl)
                  (try simp only [Act.put, List.getElem_toArray, List.getElem_cons_zero, List.getElem_cons_succ, List.setIfInBounds_toArray, List.set_cons_zero, List.set_cons_succ])
                  refine wpDet_take ?vJ4 (Hold.stays _ _) (fun _ h => h) (i := 4) rfl (by kernel_rfl) (by kernel_rfl) (by kernel_rfl) (by kernel_rfl) (fun _ _ _ h => h) (Gives.value (by rfl) ?yJ4) ?rJ4
                  case yJ4 => (intro w' hSw; (try dsimp only at hSw); go_simp; try with_reducible rfl)
                  (try simp only [Act.put, List.getElem_toArray, List.getElem_cons_zero, List.getElem_cons_succ, List.setIfInBounds_toArray, List.set_cons_zero, List.set_cons_succ])
                  refine wpDet_take ?vJ5 (Hold.stays _ _) (fun _ h => h) (i := 5) rfl (by kernel_rfl) (by kernel_rfl) (by kernel_rfl) (by kernel_rfl) (fun _ _ _ h => h) (Gives.value (by rfl) ?yJ5) ?rJ5
                  case yJ5 => (intro w' hSw; (try dsimp only at hSw); go_simp; try with_reducible rfl)
                  (try simp only [Act.put, List.getElem_toArray, List.getElem_cons_zero, List.getElem_cons_succ, List.setIfInBounds_toArray, List.set_cons_zero, List.set_cons_succ])
                  refine wpDet_take ?vJ6 (Hold.stays _ _) (fun _ h => h) (i := 6) rfl (by kernel_rfl) (by kernel_rfl) (by kernel_rfl) (by kernel_rfl) (fun _ _ _ h => h) (Gives.value (by rfl) ?yJ6) ?rJ6
                  case yJ6 => (intro w' hSw; (try dsimp only at hSw); go_simp; try with_reducible rfl)
                  (try simp only [Act.put, List.getElem_toArray, List.getElem_cons_zero, List.getElem_cons_succ, List.setIfInBounds_toArray, List.set_cons_zero, List.set_cons_succ])
                  refine wpDet_take (.agg (nums .u8 bx)) (Hold.stays _ _) (fun _ h => h) (i := 7) rfl (by kernel_rfl) (by kernel_rfl) (by kernel_rfl) (by kernel_rfl) (fun _ _ _ h => h) (Gives.of_yields (yieldsIf_load_mid (by rfl) _ _ rfl _ _ rfl _ _ (fun _ h => (h.at 5 rfl).range) Try.underlying25 rfl hibx)) ?_
                  (try simp only [Act.put, List.getElem_toArray, List.getElem_cons_zero, List.getElem_cons_succ, List.setIfInBounds_toArray, List.set_cons_zero, List.set_cons_succ])
                  refine wpDet_take _ (Hold.stays _ _) (fun _ h => h) (i := 8) rfl (by kernel_rfl) (by kernel_rfl) (by kernel_rfl) (by kernel_rfl) (fun _ _ _ h => h) (Gives.of_yields (yieldsIf_load_mid (by rfl) _ _ rfl _ _ rfl _ _ (fun _ h => (h.at 1 rfl).range) Try.underlying35 rfl infoQ)) ?_
                  (try simp only [Act.put, List.getElem_toArray, List.getElem_cons_zero, List.getElem_cons_succ, List.setIfInBounds_toArray, List.set_cons_zero, List.set_cons_succ])
                  refine wpDet_take (.agg (nums .u8 bx)) (Hold.stays _ _) (fun _ h => h) (i := 9) rfl (by kernel_rfl) (by kernel_rfl) (by kernel_rfl) (by kernel_rfl) (fun _ _ _ h => h) (Gives.call 15 #[.agg (qA fx)] (by rfl) (fun _ => by first | (go_simp; done) | (go_simp; rfl)) (fun W hW => cBx W)) ?_
                  (try simp only [Act.put, List.getElem_toArray, List.getElem_cons_zero, List.getElem_cons_succ, List.setIfInBounds_toArray, List.set_cons_zero, List.set_cons_succ])
                  refine wpDet_take ?vJ10 (Hold.stays _ _) (fun _ h => h) (i := 10) rfl (by kernel_rfl) (by kernel_rfl) (by kernel_rfl) (by kernel_rfl) (fun _ _ _ h => h) (Gives.value (by rfl) ?yJ10) ?rJ10
                  case yJ10 => (intro w' hSw; (try dsimp only at hSw); go_simp; try with_reducible rfl)
                  (try simp only [Act.put, List.getElem_toArray, List.getElem_cons_zero, List.getElem_cons_succ, List.setIfInBounds_toArray, List.set_cons_zero, List.set_cons_succ])
                  refine wpDet_take ?vJ11 (Hold.stays _ _) (fun _ h => h) (i := 11) rfl (by kernel_rfl) (by kernel_rfl) (by kernel_rfl) (by kernel_rfl) (fun _ _ _ h => h) (Gives.value (by rfl) ?yJ11) ?rJ11
                  case yJ11 => (intro w' hSw; (try dsimp only at hSw); go_simp; try with_reducible rfl)
                  (try simp only [Act.put, List.getElem_toArray, List.getElem_cons_zero, List.getElem_cons_succ, List.setIfInBounds_toArray, List.set_cons_zero, List.set_cons_succ])
                  refine wpDet_take ?vJ12 (Hold.stays _ _) (fun _ h => h) (i := 12) rfl (by kernel_rfl) (by kernel_rfl) (by kernel_rfl) (by kernel_rfl) (fun _ _ _ h => h) (Gives.value (by rfl) ?yJ12) ?rJ12
                  case yJ12 => (intro w' hSw; (try dsimp only at hSw); go_simp; try with_reducible rfl)
                  (try simp only [Act.put, List.getElem_toArray, List.getElem_cons_zero, List.getElem_cons_succ, List.setIfInBounds_toArray, List.set_cons_zero, List.set_cons_succ])
                  refine wpDet_take (.agg (nums .u8 by_)) (Hold.stays _ _) (fun _ h => h) (i := 13) rfl (by kernel_rfl) (by kernel_rfl) (by kernel_rfl) (by kernel_rfl) (fun _ _ _ h => h) (Gives.of_yields (yieldsIf_load_mid (by rfl) _ _ rfl _ _ rfl _ _ (fun _ h => (h.at 4 rfl).range) Try.underlying25 rfl hiby)) ?_
                  (try simp only [Act.put, List.getElem_toArray, List.getElem_cons_zero, List.getElem_cons_succ, List.setIfInBounds_toArray, List.set_cons_zero, List.set_cons_succ])
                  refine wpDet_take _ (Hold.stays _ _) (fun _ h => h) (i := 14) rfl (by kernel_rfl) (by kernel_rfl) (by kernel_rfl) (by kernel_rfl) (fun _ _ _ h => h) (Gives.of_yields (yieldsIf_load_mid (by rfl) _ _ rfl _ _ rfl _ _ (fun _ h => (h.at 0 rfl).range) Try.underlying35 rfl infoQ)) ?_
                  (try simp only [Act.put, List.getElem_toArray, List.getElem_cons_zero, List.getElem_cons_succ, List.setIfInBounds_toArray, List.set_cons_zero, List.set_cons_succ])
                  refine wpDet_take (.agg (nums .u8 by_)) (Hold.stays _ _) (fun _ h => h) (i := 15) rfl (by kernel_rfl) (by kernel_rfl) (by kernel_rfl) (by kernel_rfl) (fun _ _ _ h => h) (Gives.call 15 #[.agg (qA fy)] (by rfl) (fun _ => by first | (go_simp; done) | (go_simp; rfl)) (fun W hW => cBy W)) ?_
                  (try simp only [Act.put, List.getElem_toArray, List.getElem_cons_zero, List.getElem_cons_succ, List.setIfInBounds_toArray, List.set_cons_zero, List.set_cons_succ])
                  refine wpDet_take ?vJ16 (Hold.stays _ _) (fun _ h => h) (i := 16) rfl (by kernel_rfl) (by kernel_rfl) (by kernel_rfl) (by kernel_rfl) (fun _ _ _ h => h) (Gives.value (by rfl) ?yJ16) ?rJ16
                  case yJ16 => (intro w' hSw; (try dsimp only at hSw); go_simp; try with_reducible rfl)
                  (try simp only [Act.put, List.getElem_toArray, List.getElem_cons_zero, List.getElem_cons_succ, List.setIfInBounds_toArray, List.set_cons_zero, List.set_cons_succ])
                  refine wpDet_take ?vJ17 (Hold.stays _ _) (fun _ h => h) (i := 17) rfl (by kernel_rfl) (by kernel_rfl) (by kernel_rfl) (by kernel_rfl) (fun _ _ _ h => h) (Gives.value (by rfl) ?yJ17) ?rJ17
                  case yJ17 => (intro w' hSw; (try dsimp only at hSw); go_simp; try with_reducible rfl)
                  (try simp only [Act.put, List.getElem_toArray, List.getElem_cons_zero, List.getElem_cons_succ, List.setIfInBounds_toArray, List.set_cons_zero, List.set_cons_succ])
                  refine wpDet_take ?vJ18 (Hold.stays _ _) (fun _ h => h) (i := 18) rfl (by kernel_rfl) (by kernel_rfl) (by kernel_rfl) (by kernel_rfl) (fun _ _ _ h => h) (Gives.value (by rfl) ?yJ18) ?rJ18
                  case yJ18 => (intro w' hSw; (try dsimp only at hSw); go_simp; try with_reducible rfl)
                  (try simp only [Act.put, List.getElem_toArray, List.getElem_cons_zero, List.getElem_cons_succ, List.setIfInBounds_toArray, List.set_cons_zero, List.set_cons_succ])
                  refine wpDet_take (.bool true) (Hold.stays _ _) (fun _ h => h) (i := 19) rfl (by kernel_rfl) (by kernel_rfl) (by kernel_rfl) (by kernel_rfl) (fun _ _ _ h => h) (Gives.call 6 #[] (by rfl) (fun _ => by first | (go_simp; done) | (go_simp; rfl)) (fun W hW => awake_any W)) ?_
                  (try simp only [Act.put, List.getElem_toArray, List.getElem_cons_zero, List.getElem_cons_succ, List.setIfInBounds_toArray, List.set_cons_zero, List.set_cons_succ])
                  refine wpDet_take ?vJ20 (Hold.stays _ _) (fun _ h => h) (i := 20) rfl (by kernel_rfl) (by kernel_rfl) (by kernel_rfl) (by kernel_rfl) (fun _ _ _ h => h) (Gives.value (by rfl) ?yJ20) ?rJ20
                  case yJ20 => (intro w' hSw; (try dsimp only at hSw); go_simp; try with_reducible rfl)
                  (try simp only [Act.put, List.getElem_toArray, List.getElem_cons_zero, List.getElem_cons_succ, List.setIfInBounds_toArray, List.set_cons_zero, List.set_cons_succ])
                  refine wpDet_take ?vJ21 (Hold.stays _ _) (fun _ h => h) (i := 21) rfl (by kernel_rfl) (by kernel_rfl) (by kernel_rfl) (by kernel_rfl) (fun _ _ _ h => h) (Gives.value (by rfl) ?yJ21) ?rJ21
                  case yJ21 => (intro w' hSw; (try dsimp only at hSw); go_simp; try with_reducible rfl)
                  (try simp only [Act.put, List.getElem_toArray, List.getElem_cons_zero, List.getElem_cons_succ, List.setIfInBounds_toArray, List.set_cons_zero, List.set_cons_succ])
                  refine wpDet_done (by kernel_rfl) (fun W hW => ?_) _
                  go_wp2_with fail
                  go_ret
                  exact ⟨rfl, hW.2⟩

theorem walk_TagBlocks (w : World) (kl : List Int) (hkl : kl.length = 16) (wk : ∀ x ∈ kl, (Lit.int .u8 x).wf = true) (dl : List Int) (hdl : dl.length = 16) (wd : ∀ x ∈ dl, (Lit.int .u8 x).wf = true) (n0 : Int) (_wn : (Lit.int .i64 n0).wf = true) :
    Calls Try.prog 5 #[.agg (nums .u8 kl), .agg (nums .u8 dl), .int .i64 n0] w fun e w' => e = .returned (.bool true) ∧ Below w.heap.size w w' :=
  blocks_core w kl dl hkl hdl (by_of_wf wk) (by_of_wf wd) n0

end Go.Proofs.Ytlmmidlegdmjpaa.M
