/-
  Own text: a shelf once more.
-/
import Derived.Test.YtnbgdkdnlfomeaaDoorBFo
namespace Go.Proofs.YtnbgdkdnlfomeaaDoor.M
open Go.ChangeShapes Go.WideShapes Go.ChangeAt Go.RowKit Go.ChangeMaps Go.MapKept Go.Maps Go.Shelf Go.Proofs
set_option linter.unusedSimpArgs false

/-- The map and the row are there once more. -/
structure CW (w : World) (b : Nat) (p : Option Addr) (n c : Nat) (s : Sh) (V : World) : Prop where
  bl : Bl w V
  mc : MC V b s.low.cs
  own : OwG recS 64 V 0 p n c s.tail
  nb : w.heap.size ≤ b
  nm : ∀ k, mine p c k → w.heap.size ≤ k

theorem CW.stays (w : World) (b : Nat) (p : Option Addr) (n c : Nat) (s : Sh) : Stays (CW w b p n c s) :=
  fun _ _ h hb => ⟨Bl.stays w _ _ h.bl hb, h.mc.below hb, h.own.below hb, h.nb, h.nm⟩

/-- The shelf is there once more. -/
structure CZ (w : World) (g b : Nat) (p : Option Addr) (n c : Nat) (s : Sh) (V : World) : Prop where
  bl : Bl w V
  sh : ShB V g b p n c s
  ng : w.heap.size ≤ g
  nb : w.heap.size ≤ b
  nm : ∀ k, mine p c k → w.heap.size ≤ k

theorem CZ.stays (w : World) (g b : Nat) (p : Option Addr) (n c : Nat) (s : Sh) : Stays (CZ w g b p n c s) :=
  fun _ _ h hb => ⟨Bl.stays w _ _ h.bl hb, h.sh.below hb, h.ng, h.nb, h.nm⟩

theorem CW.boxed {w : World} {b : Nat} {p : Option Addr} {n c : Nat} {s : Sh} {V : World} (h : CW w b p n c s V) (hi : s.inv) : CZ w V.heap.size b p n c s (V.alloc (.cells #[.int .i64 s.low.ix, .int .i64 s.low.ep, .map (some b), .int .i64 (s.low.d 0).c, .int .i64 (s.low.d 0).q, .int .i64 (s.low.d 0).v, .int .i64 (s.low.d 1).c, .int .i64 (s.low.d 1).q, .int .i64 (s.low.d 1).v, .int .i64 (s.low.d 2).c, .int .i64 (s.low.d 2).q, .int .i64 (s.low.d 2).v, .int .i64 (s.low.d 3).c, .int .i64 (s.low.d 3).q, .int .i64 (s.low.d 3).v, .slice p n c, .int .i64 s.com] 87)) := by
  have hb := below_alloc' V (.cells #[.int .i64 s.low.ix, .int .i64 s.low.ep, .map (some b), .int .i64 (s.low.d 0).c, .int .i64 (s.low.d 0).q, .int .i64 (s.low.d 0).v, .int .i64 (s.low.d 1).c, .int .i64 (s.low.d 1).q, .int .i64 (s.low.d 1).v, .int .i64 (s.low.d 2).c, .int .i64 (s.low.d 2).q, .int .i64 (s.low.d 2).v, .int .i64 (s.low.d 3).c, .int .i64 (s.low.d 3).q, .int .i64 (s.low.d 3).v, .slice p n c, .int .i64 s.com] 87)
  refine ⟨Bl.stays w _ _ h.bl hb, ⟨At.new _ _ _, h.mc.below hb, h.own.below hb, hi, fun e => ?_⟩, (Bl.out h.bl).size, h.nb, h.nm⟩
  exact Nat.lt_irrefl _ (h.own.lt e).2

set_option maxRecDepth 20000 in
set_option maxHeartbeats 2000000 in
theorem sclone_any {w : World} {g b : Nat} {p : Option Addr} {n c : Nat} {s : Sh} (h : ShB w g b p n c s) :
    Calls Tryd.prog 30 #[.pointer (some ⟨g, 0, none⟩)] w fun e w' => ∃ g' b' p' c', e = .returned (.pointer (some ⟨g', 0, none⟩)) ∧ CZ w g' b' p' n c' s w' := by
  have hm := h.made
  have hn1000 : n ≤ 1000 := by
    have := h.len
    have := h.inv.few
    omega
  go_enter Tryd.func30, Tryd.ntmps30
  go_wp2_with fail
  refine hm.mono ?_
  rintro e w1 ⟨rfl, rfl⟩
  clear hm
  go_wp2_with fail
  have hS0 : Bl w1 w1.drew := (Below.refl _ _).drew
  refine wp_region_det [0, 1, 2, 3, 5, 6, 7, 8, 10, 11, 12, 13, 14, 16] (Bl w1) (Bl w1) (by kernel_rfl) hS0 ?_
  refine wpDet_take ?vW0 (Bl.stays w1) (fun _ h => h) (i := 0) rfl (by kernel_rfl) (by kernel_rfl) (by kernel_rfl) (by kernel_rfl) (fun _ _ _ h => h) (Gives.value (by rfl) ?yW0) ?rW0
  case yW0 => (intro w' hSw; (try dsimp only at hSw); go_simp; try with_reducible rfl)
  (try simp only [Act.put, List.getElem_toArray, List.getElem_cons_zero, List.getElem_cons_succ, List.setIfInBounds_toArray, List.set_cons_zero, List.set_cons_succ])
  refine wpDet_take ?vW1 (Bl.stays w1) (fun _ h => h) (i := 1) rfl (by kernel_rfl) (by kernel_rfl) (by kernel_rfl) (by kernel_rfl) (fun _ _ _ h => h) (Gives.value (by rfl) ?yW1) ?rW1
  case yW1 => (intro w' hSw; (try dsimp only at hSw); go_simp; try with_reducible rfl)
  (try simp only [Act.put, List.getElem_toArray, List.getElem_cons_zero, List.getElem_cons_succ, List.setIfInBounds_toArray, List.set_cons_zero, List.set_cons_succ])
  refine wpDet_take ?vW2 (Bl.stays w1) (fun _ h => h) (i := 2) rfl (by kernel_rfl) (by kernel_rfl) (by kernel_rfl) (by kernel_rfl) (fun _ _ _ h => h) (Gives.value (by rfl) ?yW2) ?rW2
  case yW2 => (intro w' hSw; (try dsimp only at hSw); go_simp; try with_reducible rfl)
  (try simp only [Act.put, List.getElem_toArray, List.getElem_cons_zero, List.getElem_cons_succ, List.setIfInBounds_toArray, List.set_cons_zero, List.set_cons_succ])
  refine wpDet_take ?vW3 (Bl.stays w1) (fun _ h => h) (i := 3) rfl (by kernel_rfl) (by kernel_rfl) (by kernel_rfl) (by kernel_rfl) (fun _ _ _ h => h) (Gives.value (by rfl) ?yW3) ?rW3
  case yW3 => (intro w' hSw; obtain ⟨⟨zz0, zz1, zz2, zz3, zz4, zz5, zz6, zz7, zz8, zz9, zz10, zz11, zz12, zz13, zz14⟩, zz15, zz16⟩ := (h.below (show Below w1.heap.size w1 w' from hSw)).cells; (try dsimp only at hSw); go_simp; try with_reducible rfl)
  (try simp only [Act.put, List.getElem_toArray, List.getElem_cons_zero, List.getElem_cons_succ, List.setIfInBounds_toArray, List.set_cons_zero, List.set_cons_succ])
  refine wpDet_take ?vW5 (Bl.stays w1) (fun _ h => h) (i := 5) rfl (by kernel_rfl) (by kernel_rfl) (by kernel_rfl) (by kernel_rfl) (fun _ _ _ h => h) (Gives.value (by rfl) ?yW5) ?rW5
  case yW5 => (intro w' hSw; (try dsimp only at hSw); go_simp; try with_reducible rfl)
  (try simp only [Act.put, List.getElem_toArray, List.getElem_cons_zero, List.getElem_cons_succ, List.setIfInBounds_toArray, List.set_cons_zero, List.set_cons_succ])
  refine wpDet_take ?vW6 (Bl.stays w1) (fun _ h => h) (i := 6) rfl (by kernel_rfl) (by kernel_rfl) (by kernel_rfl) (by kernel_rfl) (fun _ _ _ h => h) (Gives.value (by rfl) ?yW6) ?rW6
  case yW6 => (intro w' hSw; (try dsimp only at hSw); go_simp; try with_reducible rfl)
  (try simp only [Act.put, List.getElem_toArray, List.getElem_cons_zero, List.getElem_cons_succ, List.setIfInBounds_toArray, List.set_cons_zero, List.set_cons_succ])
  refine wpDet_take ?vW7 (Bl.stays w1) (fun _ h => h) (i := 7) rfl (by kernel_rfl) (by kernel_rfl) (by kernel_rfl) (by kernel_rfl) (fun _ _ _ h => h) (Gives.value (by rfl) ?yW7) ?rW7
  case yW7 => (intro w' hSw; (try dsimp only at hSw); go_simp; try with_reducible rfl)
  (try simp only [Act.put, List.getElem_toArray, List.getElem_cons_zero, List.getElem_cons_succ, List.setIfInBounds_toArray, List.set_cons_zero, List.set_cons_succ])
  refine wpDet_take ?vW8 (Bl.stays w1) (fun _ h => h) (i := 8) rfl (by kernel_rfl) (by kernel_rfl) (by kernel_rfl) (by kernel_rfl) (fun _ _ _ h => h) (Gives.value (by rfl) ?yW8) ?rW8
  case yW8 => (intro w' hSw; obtain ⟨⟨zz0, zz1, zz2, zz3, zz4, zz5, zz6, zz7, zz8, zz9, zz10, zz11, zz12, zz13, zz14⟩, zz15, zz16⟩ := (h.below (show Below w1.heap.size w1 w' from hSw)).cells; (try dsimp only at hSw); go_simp; try with_reducible rfl)
  (try simp only [Act.put, List.getElem_toArray, List.getElem_cons_zero, List.getElem_cons_succ, List.setIfInBounds_toArray, List.set_cons_zero, List.set_cons_succ])
  refine wpDet_take ?vW10 (Bl.stays w1) (fun _ h => h) (i := 10) rfl (by kernel_rfl) (by kernel_rfl) (by kernel_rfl) (by kernel_rfl) (fun _ _ _ h => h) (Gives.value (by rfl) ?yW10) ?rW10
  case yW10 => (intro w' hSw; (try dsimp only at hSw); go_simp; try with_reducible rfl)
  (try simp only [Act.put, List.getElem_toArray, List.getElem_cons_zero, List.getElem_cons_succ, List.setIfInBounds_toArray, List.set_cons_zero, List.set_cons_succ])
  refine wpDet_take ?vW11 (Bl.stays w1) (fun _ h => h) (i := 11) rfl (by kernel_rfl) (by kernel_rfl) (by kernel_rfl) (by kernel_rfl) (fun _ _ _ h => h) (Gives.value (by rfl) ?yW11) ?rW11
  case yW11 => (intro w' hSw; (try dsimp only at hSw); go_simp; try with_reducible rfl)
  (try simp only [Act.put, List.getElem_toArray, List.getElem_cons_zero, List.getElem_cons_succ, List.setIfInBounds_toArray, List.set_cons_zero, List.set_cons_succ])
  refine wpDet_take ?vW12 (Bl.stays w1) (fun _ h => h) (i := 12) rfl (by kernel_rfl) (by kernel_rfl) (by kernel_rfl) (by kernel_rfl) (fun _ _ _ h => h) (Gives.value (by rfl) ?yW12) ?rW12
  case yW12 => (intro w' hSw; (try dsimp only at hSw); go_simp; try with_reducible rfl)
  (try simp only [Act.put, List.getElem_toArray, List.getElem_cons_zero, List.getElem_cons_succ, List.setIfInBounds_toArray, List.set_cons_zero, List.set_cons_succ])
  refine wpDet_take ?vW13 (Bl.stays w1) (fun _ h => h) (i := 13) rfl (by kernel_rfl) (by kernel_rfl) (by kernel_rfl) (by kernel_rfl) (fun _ _ _ h => h) (Gives.value (by rfl) ?yW13) ?rW13
  case yW13 => (intro w' hSw; obtain ⟨⟨zz0, zz1, zz2, zz3, zz4, zz5, zz6, zz7, zz8, zz9, zz10, zz11, zz12, zz13, zz14⟩, zz15, zz16⟩ := (h.below (show Below w1.heap.size w1 w' from hSw)).cells; (try dsimp only at hSw); go_simp; try with_reducible rfl)
  (try simp only [Act.put, List.getElem_toArray, List.getElem_cons_zero, List.getElem_cons_succ, List.setIfInBounds_toArray, List.set_cons_zero, List.set_cons_succ])
  refine wpDet_ready (rs := [4]) (by kernel_rfl) (by simp) (AllDet.cons rfl (fun V hV K hK => ?_) AllDet.nil)
  rw [if_pos (by rfl)]
  have hbV := Bl.out hV
  have hC : Calls Tryd.prog 55 #[.agg #[.int .i64 s.low.ix, .int .i64 s.low.ep, .map (some b), .int .i64 (s.low.d 0).c, .int .i64 (s.low.d 0).q, .int .i64 (s.low.d 0).v, .int .i64 (s.low.d 1).c, .int .i64 (s.low.d 1).q, .int .i64 (s.low.d 1).v, .int .i64 (s.low.d 2).c, .int .i64 (s.low.d 2).q, .int .i64 (s.low.d 2).v, .int .i64 (s.low.d 3).c, .int .i64 (s.low.d 3).q, .int .i64 (s.low.d 3).v], .slice none 0 0] V fun e w' => ∃ b', e = .returned (.agg #[.int .i64 s.low.ix, .int .i64 s.low.ep, .map (some b'), .int .i64 (s.low.d 0).c, .int .i64 (s.low.d 0).q, .int .i64 (s.low.d 0).v, .int .i64 (s.low.d 1).c, .int .i64 (s.low.d 1).q, .int .i64 (s.low.d 1).v, .int .i64 (s.low.d 2).c, .int .i64 (s.low.d 2).q, .int .i64 (s.low.d 2).v, .int .i64 (s.low.d 3).c, .int .i64 (s.low.d 3).q, .int .i64 (s.low.d 3).v]) ∧ MC w' b' s.low.cs ∧ V.heap.size ≤ b' ∧ Below V.heap.size V w' := with_any s.low b none 0 0 [] V (h.mp.below hbV) (RdG.nilR _ _ _ fun _ => rfl) (fun _ h => by cases h) (by decide)
  refine wp_enterX 55 #[.agg #[.int .i64 s.low.ix, .int .i64 s.low.ep, .map (some b), .int .i64 (s.low.d 0).c, .int .i64 (s.low.d 0).q, .int .i64 (s.low.d 0).v, .int .i64 (s.low.d 1).c, .int .i64 (s.low.d 1).q, .int .i64 (s.low.d 1).v, .int .i64 (s.low.d 2).c, .int .i64 (s.low.d 2).q, .int .i64 (s.low.d 2).v, .int .i64 (s.low.d 3).c, .int .i64 (s.low.d 3).q, .int .i64 (s.low.d 3).v], .slice none 0 0] (by first | (go_simp; done) | (go_simp; rfl)) (fun x W => ∃ b', x = .agg #[.int .i64 s.low.ix, .int .i64 s.low.ep, .map (some b'), .int .i64 (s.low.d 0).c, .int .i64 (s.low.d 0).q, .int .i64 (s.low.d 0).v, .int .i64 (s.low.d 1).c, .int .i64 (s.low.d 1).q, .int .i64 (s.low.d 1).v, .int .i64 (s.low.d 2).c, .int .i64 (s.low.d 2).q, .int .i64 (s.low.d 2).v, .int .i64 (s.low.d 3).c, .int .i64 (s.low.d 3).q, .int .i64 (s.low.d 3).v] ∧ MC W b' s.low.cs ∧ V.heap.size ≤ b' ∧ Below V.heap.size V W) (hC.mono fun r w' ⟨b', h1, h2, h3, h4⟩ => ⟨_, h1, b', rfl, h2, h3, h4⟩) ?_
  rintro x7 V7 ⟨b7, rfl, hm7, hb7, hbl7⟩
  have hz7 : MW w1 b7 s.low.cs V7 := ⟨Bl.stays w1 V _ hV hbl7, hm7, Nat.le_trans hbV.size hb7⟩
  refine hK.out (MW w1 b7 s.low.cs) _ _ (MW.stays _ _ _) (fun _ _ h => h.1) hz7 ?_
  clear hK K hV hC hbl7 hm7 hz7 hbV hb7
  (try simp only [Act.put, List.getElem_toArray, List.getElem_cons_zero, List.getElem_cons_succ, List.setIfInBounds_toArray, List.set_cons_zero, List.set_cons_succ])
  refine wpDet_ready (rs := [9]) (by kernel_rfl) (by simp) (AllDet.cons rfl (fun V hV K hK => ?_) AllDet.nil)
  rw [if_pos (by rfl)]
  have hbV := Bl.out hV.1
  have hC := rclone_any (h.tl.rd.below hbV) hn1000
  refine wp_enterX 50 #[.slice p n c] (by first | (go_simp; done) | (go_simp; rfl)) (fun x W => ∃ p' c', x = .slice p' n c' ∧ OwG recS 64 W V.heap.size p' n c' s.tail ∧ Below V.heap.size V W ∧ ∀ k, mine p' c' k → V.heap.size ≤ k) (hC.mono fun r w' ⟨p', c', h1, h2, h3, h4⟩ => ⟨_, h1, p', c', rfl, h2, h3, h4⟩) ?_
  rintro x8 V8 ⟨p8, c8, rfl, ho8, hbl8, hn8⟩
  have hz8 : CW w1 b7 p8 n c8 s V8 := ⟨Bl.stays w1 V _ hV.1 hbl8, hV.2.1.below hbl8, ho8.lower (Nat.zero_le _), hV.2.2, fun k hk => Nat.le_trans hbV.size (hn8 k hk)⟩
  refine hK.out (CW w1 b7 p8 n c8 s) _ _ (CW.stays _ _ _ _ _ _) (fun _ _ h => h.bl) hz8 ?_
  clear hK K hV hC hbl8 ho8 hz8 hbV hn8
  (try simp only [Act.put, List.getElem_toArray, List.getElem_cons_zero, List.getElem_cons_succ, List.setIfInBounds_toArray, List.set_cons_zero, List.set_cons_succ])
  refine wpDet_take ?vW14 (CW.stays _ _ _ _ _ _) (fun _ h => h.bl) (i := 14) rfl (by kernel_rfl) (by kernel_rfl) (by kernel_rfl) (by kernel_rfl) (fun _ _ _ h => h) (Gives.value (by rfl) ?yW14) ?rW14
  case yW14 => (intro w' hSw; (try dsimp only at hSw); go_simp; try with_reducible rfl)
  (try simp only [Act.put, List.getElem_toArray, List.getElem_cons_zero, List.getElem_cons_succ, List.setIfInBounds_toArray, List.set_cons_zero, List.set_cons_succ])
  refine wpDet_ready (rs := [15]) (by kernel_rfl) (by simp) (AllDet.cons rfl (fun V hV K hK => ?_) AllDet.nil)
  rw [if_pos (by rfl)]
  refine wp_value (.pointer (some ⟨V.heap.size, 0, none⟩)) (V.alloc (.cells #[.int .i64 s.low.ix, .int .i64 s.low.ep, .map (some b7), .int .i64 (s.low.d 0).c, .int .i64 (s.low.d 0).q, .int .i64 (s.low.d 0).v, .int .i64 (s.low.d 1).c, .int .i64 (s.low.d 1).q, .int .i64 (s.low.d 1).v, .int .i64 (s.low.d 2).c, .int .i64 (s.low.d 2).q, .int .i64 (s.low.d 2).v, .int .i64 (s.low.d 3).c, .int .i64 (s.low.d 3).q, .int .i64 (s.low.d 3).v, .slice p8 n c8, .int .i64 s.com] 87)) (by first | (go_simp; done) | (go_simp; rfl)) ?_
  have hz9 := hV.boxed h.inv
  refine hK.out (CZ w1 V.heap.size b7 p8 n c8 s) _ _ (CZ.stays _ _ _ _ _ _ _) (fun _ _ h => h.bl) hz9 ?_
  clear hK K hz9
  obtain ⟨gr, hgr⟩ : ∃ gr, gr = V.heap.size := ⟨_, rfl⟩
  rw [← hgr]
  clear hV hgr
  (try simp only [Act.put, List.getElem_toArray, List.getElem_cons_zero, List.getElem_cons_succ, List.setIfInBounds_toArray, List.set_cons_zero, List.set_cons_succ])
  refine wpDet_take ?vW16 (CZ.stays _ _ _ _ _ _ _) (fun _ h => h.bl) (i := 16) rfl (by kernel_rfl) (by kernel_rfl) (by kernel_rfl) (by kernel_rfl) (fun _ _ _ h => h) (Gives.value (by rfl) ?yW16) ?rW16
  case yW16 => (intro w' hSw; (try dsimp only at hSw); go_simp; try with_reducible rfl)
  (try simp only [Act.put, List.getElem_toArray, List.getElem_cons_zero, List.getElem_cons_succ, List.setIfInBounds_toArray, List.set_cons_zero, List.set_cons_succ])
  refine wpDet_done (by kernel_rfl) (fun W9 hV => ?_) _
  go_wp2_with fail
  go_ret
  exact ⟨_, b7, p8, c8, rfl, hV⟩

end Go.Proofs.YtnbgdkdnlfomeaaDoor.M
