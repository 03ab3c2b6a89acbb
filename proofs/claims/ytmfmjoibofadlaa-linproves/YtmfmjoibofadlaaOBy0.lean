/-
  Own text: what By's sort asks of two calls.
-/
import Derived.Test.YtmfmjoibofadlaaOPrv
import Derived.Test.YtmfmjoibofadlaaDet2
import Derived.Test.YtmfmjoibofadlaaNDet3
import Derived.Deep.RegionHeld
import Derived.Deep.MidRow
namespace Go.Proofs.Ytmfmjoibofadlaa.M
open Go.ChangeShapes Go.WideShapes Go.ChangeAt Go.RowKit Go.ChangeMaps Go.MapKept Go.Maps
set_option linter.unusedSimpArgs false

theorem ret_int' {a b : Int} (h : a = b) : Ending.returned (.int .i64 a) = .returned (.int .i64 b) := by rw [h]

theorem isNaN_any (x : Int) (w : World) : Calls Try.prog 54 #[.int .i64 x] w fun e w' => e = .returned (.bool false) ∧ w' = w := by
  go_enter Try.func54, Try.ntmps54
  go_wp2
  go_ret
  exact ⟨rfl, rfl⟩

/-- What a comparison tells. -/
def cmpI (x y : Int) : Int := if x < y then -1 else if y < x then 1 else 0

set_option maxRecDepth 20000 in
theorem compare_any (x y : Int) (w : World) : Calls Try.prog 40 #[.int .i64 x, .int .i64 y] w fun e w' => e = .returned (.int .i64 (cmpI x y)) ∧ w' = w := by
  have hx := fun W => isNaN_any x W
  have hy := fun W => isNaN_any y W
  have HC : Hid (cmpI x y = if x < y then -1 else if y < x then 1 else 0) := rfl
  generalize cmpI x y = z at *
  go_enter Try.func40, Try.ntmps40
  go_wp2_with fail
  refine (hx _).mono ?_
  rintro r w1 ⟨rfl, rfl⟩
  go_wp2_with fail
  refine (hy _).mono ?_
  rintro r w2 ⟨rfl, rfl⟩
  by_cases h1 : x < y
  · have HN : Hid (z = -1) := by unfold Hid; rw [HC.out, if_pos h1]
    clear HC
    go_wp2_with fail
    go_ret
    exact ⟨ret_int' HN.out.symm, rfl⟩
  · by_cases h2 : y < x
    · have HN : Hid (z = 1) := by unfold Hid; rw [HC.out, if_neg h1, if_pos h2]
      clear HC
      go_wp2_with fail
      go_ret
      exact ⟨ret_int' HN.out.symm, rfl⟩
    · have HN : Hid (z = 0) := by unfold Hid; rw [HC.out, if_neg h1, if_neg h2]
      clear HC
      go_wp2_with fail
      go_ret
      exact ⟨ret_int' HN.out.symm, rfl⟩

theorem compare_later (x y : Int) (w : World) : Calls Try.prog 40 #[.int .i64 x, .int .i64 y] w fun e w' => e = .returned (.int .i64 (cmpI x y)) ∧ Later w w' :=
  (compare_any x y w).mono fun _ _ ⟨h1, h2⟩ => ⟨h1, by rw [h2]; exact Later.refl _⟩

theorem rank_any (o : Lo) (w : World) : Calls Try.prog 41 #[.agg #[.bool o.w, .string o.s, .int .i64 o.v, .int .i64 o.b, .int .i64 o.e]] w fun e w' => e = .returned (.int .i64 (rkO o : Nat)) ∧ Later w w' := by
  obtain ⟨ow, os, ov, ob, oe⟩ := o
  unfold rkO
  dsimp only
  cases ow with
  | true =>
    go_enter Try.func41, Try.ntmps41
    go_wp2_with fail
    go_ret
    exact ⟨rfl, Later.alloc _ _⟩
  | false =>
    go_enter Try.func41, Try.ntmps41
    go_wp2_with fail
    go_ret
    exact ⟨rfl, Later.alloc _ _⟩

def or4 (a b c d : Int) : Int := if a ≠ 0 then a else if b ≠ 0 then b else if c ≠ 0 then c else d

set_option maxRecDepth 20000 in
set_option maxHeartbeats 2000000 in
theorem or_four (w : World) (g : Nat) (a b c d : Int) (h : At 3 w g #[.int .i64 a, .int .i64 b, .int .i64 c, .int .i64 d]) :
    Calls Try.prog 39 #[.slice (some ⟨g, 0, none⟩) 4 4] w fun e w' => e = .returned (.int .i64 (or4 a b c d)) ∧ Later w w' := by
  have hB := Later.refl w
  have c0 := At.cell h 0
  have c1 := At.cell h 1
  have c2 := At.cell h 2
  have c3 := At.cell h 3
  simp only [List.getElem?_toArray, List.getElem?_cons_zero, List.getElem?_cons_succ] at c0 c1 c2 c3
  obtain ⟨f, hf⟩ : ∃ f : Nat → Int, f 0 = a ∧ f 1 = b ∧ f 2 = c ∧ f 3 = d := ⟨fun k => if k = 0 then a else if k = 1 then b else if k = 2 then c else d, by simp⟩
  have hcell : ∀ k, k < 4 → w.cell? ⟨g, k, none⟩ = some (.int .i64 (f k)) := fun k hk => by
    have : k = 0 ∨ k = 1 ∨ k = 2 ∨ k = 3 := by omega
    rcases this with rfl | rfl | rfl | rfl
    · rw [hf.1]; exact c0
    · rw [hf.2.1]; exact c1
    · rw [hf.2.2.1]; exact c2
    · rw [hf.2.2.2]; exact c3
  have HO : Hid (or4 a b c d = if f 0 ≠ 0 then f 0 else if f 1 ≠ 0 then f 1 else if f 2 ≠ 0 then f 2 else f 3) := by rw [hf.1, hf.2.1, hf.2.2.1, hf.2.2.2]; rfl
  clear c0 c1 c2 c3 hf h
  generalize or4 a b c d = z at *
  go_enter Try.func39, Try.ntmps39
  go_wp2_with fail
  go_loopw [8, 5] (fun v v5 wr => ∃ k : Nat, k ≤ 4 ∧ v = .int .i64 k ∧ (∀ j, j < k → f j = 0) ∧ wr = w) (fun v _ _ => 4 - (intOf v).toNat)
  case atStart => exact ⟨0, Nat.zero_le _, rfl, (fun j hj => absurd hj (Nat.not_lt_zero _)), rfl⟩
  case round =>
    obtain ⟨k, hk, rfl, h0, rfl⟩ := hrel
    by_cases hk4 : k < 4
    · have hki : (k : Int) < 4 := by omega
      have hc := hcell k hk4
      by_cases hz : f k = 0
      · have hzb : (f k != 0) = false := by simp [hz]
        have HZ : Hid (f k = 0) := hz
        clear hz
        go_wp2_with fail
        exact ⟨⟨k + 1, by omega, by go_num, fun j hj => by rcases Nat.lt_or_ge j k with h | h; exact h0 j h; have : j = k := by omega
                                                           subst this; exact HZ.out, by first | rfl | trivial⟩, by simp [intOf]; omega⟩
      · have hzb : (f k != 0) = true := by simp [hz]
        have HZ : Hid (z = f k) := by
          show z = f k
          rw [HO.out]
          have : k = 0 ∨ k = 1 ∨ k = 2 ∨ k = 3 := by omega
          rcases this with rfl | rfl | rfl | rfl
          · rw [if_pos hz]
          · rw [if_neg (by have := h0 0 (by omega); simp [this]), if_pos hz]
          · rw [if_neg (by have := h0 0 (by omega); simp [this]), if_neg (by have := h0 1 (by omega); simp [this]), if_pos hz]
          · rw [if_neg (by have := h0 0 (by omega); simp [this]), if_neg (by have := h0 1 (by omega); simp [this]), if_neg (by have := h0 2 (by omega); simp [this])]
        clear hz HO h0
        go_wp2_with fail
        go_ret
        exact ⟨ret_int' HZ.out.symm, hB⟩
    · have hki : ¬ (k : Int) < 4 := by omega
      have HZ : Hid (z = 0) := by
        show z = 0
        rw [HO.out, if_neg (by have := h0 0 (by omega); simp [this]), if_neg (by have := h0 1 (by omega); simp [this]), if_neg (by have := h0 2 (by omega); simp [this])]
        exact h0 3 (by omega)
      clear HO h0
      go_wp2_with fail
      go_ret
      exact ⟨ret_int' HZ.out.symm, hB⟩

theorem infoOp : (Try.prog.info? 29).map (·.size) = some 5 := by kernel_rfl
theorem oneOp {x : Lo} : (#[.bool x.w, .string x.s, .int .i64 x.v, .int .i64 x.b, .int .i64 x.e] : Array Value).all (·.oneCell') = true := by simp [Value.oneCell']

theorem At.row {t : TypeId} {w : World} {g : Nat} {cs : Array Value} (h : At t w g cs) (cs' : Array Value) : At t (w.setRow g cs') g cs' := by
  unfold At at *
  unfold World.setRow
  simp [Array.getElem?_modify, h]

theorem At.rowNe {t : TypeId} {w : World} {g b : Nat} {cs : Array Value} (h : At t w g cs) (cs' : Array Value) (hne : b ≠ g) : At t (w.setRow b cs') g cs := by
  unfold At at *
  unfold World.setRow
  rw [Array.getElem?_modify, if_neg hne]
  exact h

theorem At.range {t : TypeId} {W : World} {b : Nat} {cs : List Value} (h : At t W b cs.toArray) : W.rangeAt b 0 cs := by
  intro j v hv
  rw [Nat.zero_add, At.cell h j]
  simpa using hv

def Lt (w W : World) : Prop := Later w W
theorem Lt.out {w W : World} (h : Lt w W) : Below w.heap.size w W := h.below
theorem Lt.stays (w : World) : Stays3 (Lt w) := fun _ _ h hb => Later.trans h hb
theorem Lt.row {w V : World} (h : Lt w V) {g : Nat} (cs : Array Value) (hg : w.heap.size ≤ g) : Lt w (V.setRow g cs) := ⟨h.below.trans (below_setRow V g cs hg), h.drawn⟩

def A1 (w : World) (g : Nat) (W : World) : Prop := Lt w W ∧ At 29 W g #[.bool false, .string ⟨#[]⟩, .int .i64 0, .int .i64 0, .int .i64 0] ∧ w.heap.size ≤ g
theorem A1.stays (w : World) (g : Nat) : Stays3 (A1 w g) := fun W W' h hb => ⟨Lt.stays w W W' h.1 hb, At.below h.2.1 hb.below, h.2.2⟩
theorem A1.mk' {w V : World} (h : Lt w V) : A1 w V.heap.size (V.alloc (.cells #[.bool false, .string ⟨#[]⟩, .int .i64 0, .int .i64 0, .int .i64 0] 29)) := ⟨Lt.stays w V _ h (Later.alloc _ _), At.new _ _ _, (Lt.out h).size⟩

structure A2 (w : World) (g6 g7 : Nat) (W : World) : Prop where
  bl : Lt w W
  a6 : At 29 W g6 #[.bool false, .string ⟨#[]⟩, .int .i64 0, .int .i64 0, .int .i64 0]
  a7 : At 29 W g7 #[.bool false, .string ⟨#[]⟩, .int .i64 0, .int .i64 0, .int .i64 0]
  h6 : w.heap.size ≤ g6
  h7 : w.heap.size ≤ g7
  ne : g6 ≠ g7
theorem A2.stays (w : World) (g6 g7 : Nat) : Stays3 (A2 w g6 g7) := fun W W' h hb => ⟨Lt.stays w W W' h.bl hb, h.a6.below hb.below, h.a7.below hb.below, h.h6, h.h7, h.ne⟩
theorem A1.two {w V : World} {g : Nat} (h : A1 w g V) : A2 w g V.heap.size (V.alloc (.cells #[.bool false, .string ⟨#[]⟩, .int .i64 0, .int .i64 0, .int .i64 0] 29)) :=
  ⟨Lt.stays w V _ h.1 (Later.alloc _ _), At.alloc h.2.1 _, At.new _ _ _, h.2.2, (Lt.out h.1).size, Nat.ne_of_lt (At.lt h.2.1)⟩
theorem A1.two2 {w V : World} {g : Nat} (h : A1 w g V) : A2 w V.heap.size g (V.alloc (.cells #[.bool false, .string ⟨#[]⟩, .int .i64 0, .int .i64 0, .int .i64 0] 29)) :=
  ⟨Lt.stays w V _ h.1 (Later.alloc _ _), At.new _ _ _, At.alloc h.2.1 _, (Lt.out h.1).size, h.2.2, Nat.ne_of_gt (At.lt h.2.1)⟩

structure C1 (w : World) (g6 g7 : Nat) (x : Lo) (W : World) : Prop where
  bl : Lt w W
  a6 : At 29 W g6 #[.bool x.w, .string x.s, .int .i64 x.v, .int .i64 x.b, .int .i64 x.e]
  a7 : At 29 W g7 #[.bool false, .string ⟨#[]⟩, .int .i64 0, .int .i64 0, .int .i64 0]
  h7 : w.heap.size ≤ g7
  ne : g6 ≠ g7
theorem C1.stays (w : World) (g6 g7 : Nat) (x : Lo) : Stays3 (C1 w g6 g7 x) := fun W W' h hb => ⟨Lt.stays w W W' h.bl hb, h.a6.below hb.below, h.a7.below hb.below, h.h7, h.ne⟩
theorem A2.put {w V : World} {g6 g7 : Nat} {x : Lo} (h : A2 w g6 g7 V) : C1 w g6 g7 x (V.setRow g6 #[.bool x.w, .string x.s, .int .i64 x.v, .int .i64 x.b, .int .i64 x.e]) :=
  ⟨h.bl.row _ h.h6, h.a6.row _, h.a7.rowNe _ h.ne, h.h7, h.ne⟩

structure C2 (w : World) (g6 g7 : Nat) (x y : Lo) (W : World) : Prop where
  bl : Lt w W
  a6 : At 29 W g6 #[.bool x.w, .string x.s, .int .i64 x.v, .int .i64 x.b, .int .i64 x.e]
  a7 : At 29 W g7 #[.bool y.w, .string y.s, .int .i64 y.v, .int .i64 y.b, .int .i64 y.e]
theorem C2.stays (w : World) (g6 g7 : Nat) (x y : Lo) : Stays3 (C2 w g6 g7 x y) := fun W W' h hb => ⟨Lt.stays w W W' h.bl hb, h.a6.below hb.below, h.a7.below hb.below⟩
theorem C1.put {w V : World} {g6 g7 : Nat} {x y : Lo} (h : C1 w g6 g7 x V) : C2 w g6 g7 x y (V.setRow g7 #[.bool y.w, .string y.s, .int .i64 y.v, .int .i64 y.b, .int .i64 y.e]) :=
  ⟨h.bl.row _ h.h7, h.a6.rowNe _ h.ne.symm, h.a7.row _⟩

def L4 (w : World) (g : Nat) (cs : Array Value) (W : World) : Prop := Lt w W ∧ At 3 W g cs
theorem L4.stays (w : World) (g : Nat) (cs : Array Value) : Stays3 (L4 w g cs) := fun W W' h hb => ⟨Lt.stays w W W' h.1 hb, At.below h.2 hb.below⟩

/-- The ways of a region meet again: the frame is one of these. -/
def Meet2 (A : Nat → Nat → Act) (R : Nat → Nat → World → Prop) : Exit → Act → World → Prop
  | .normal, a, w => ∃ x y, a = A x y ∧ R x y w
  | _, _, _ => False

theorem wp_meet2 {P : Program} {c : Code} {Q : Exit → Act → World → Prop} {a : Act} {w : World} {A : Nat → Nat → Act} {R : Nat → Nat → World → Prop} (h : c.wp P (Meet2 A R) a w) (k : ∀ x y w', R x y w' → Q .normal (A x y) w') : c.wp P Q a w :=
  Code.wp_mono (fun e a2 w2 hm => by
    cases e with
    | normal => obtain ⟨x, y, rfl, hR⟩ := hm; exact k x y w2 hR
    | _ => exact absurd hm id) h

theorem RdO.range {w W : World} {b o n c : Nat} {L : List Lo} (h : RdO w (some ⟨b, o, none⟩) n c L) (hb : Below w.heap.size w W) {i : Nat} (hi : i < n) : W.rangeAt b (o + i * 5) [.bool (L.getD i .z0).w, .string (L.getD i .z0).s, .int .i64 (L.getD i .z0).v, .int .i64 (L.getD i .z0).b, .int .i64 (L.getD i .z0).e] := by
  obtain ⟨b', o', e, hc⟩ := (h.below hb).cells (by omega)
  cases e
  obtain ⟨c0, c1, c2, c3, c4⟩ := hc i hi
  intro j v hv
  rcases j with _ | _ | _ | _ | _ | j
  · have := Option.some.inj (show some _ = some v from hv); subst this; exact c0
  · have := Option.some.inj (show some _ = some v from hv); subst this; exact c1
  · have := Option.some.inj (show some _ = some v from hv); subst this; exact c2
  · have := Option.some.inj (show some _ = some v from hv); subst this; exact c3
  · have := Option.some.inj (show some _ = some v from hv); subst this; exact c4
  · simp at hv

/-- How By compares two places. -/
def cfO (L : List Lo) (i j : Nat) : Int := or4 (cmpI (L.getD i .z0).v (L.getD j .z0).v) (cmpI (rkO (L.getD i .z0) : Nat) (rkO (L.getD j .z0) : Nat)) (cmpI (L.getD i .z0).b (L.getD j .z0).b) (cmpI (i : Int) (j : Int))

set_option maxRecDepth 20000 in
set_option maxHeartbeats 4000000 in
theorem less_any {w : World} {g : Nat} {p : Option Addr} {n c : Nat} {L : List Lo} (hG : At 22 w g #[.slice p n c]) (hr : RdO w p n c L) {i j : Nat} (hi : i < n) (hj : j < n) :
    Calls Try.prog 38 #[.int .i64 i, .int .i64 j, .pointer (some ⟨g, 0, none⟩)] w fun e w' => e = .returned (.int .i64 (cfO L i j)) ∧ Later w w' := by
  obtain ⟨b, o, rfl, _⟩ := hr.cells (by omega)
  have hr1 : ∀ W, Lt w W → W.rangeAt b (o + i * 5) _ := fun W h => hr.range (Lt.out h) hi
  have hr2 : ∀ W, Lt w W → W.rangeAt b (o + j * 5) _ := fun W h => hr.range (Lt.out h) hj
  have hii : (i : Int) < (n : Int) := by omega
  have hji : (j : Int) < (n : Int) := by omega
  unfold cfO
  generalize L.getD i .z0 = x at *
  generalize L.getD j .z0 = y at *
  obtain ⟨V0, hV0⟩ : ∃ V0, V0 = w := ⟨_, rfl⟩
  subst hV0
  clear hr
  go_enter Try.func38, Try.ntmps38
  go_wp2_with fail
  have hS0 : Lt V0 V0.drew := Later.drew _
  apply wp_meet2 (R := fun g6 g7 W => C2 V0 g6 g7 x y W)
  · refine wp_region_det3 [0, 1, 2, 3, 4, 5, 6, 7] (Lt V0) (Lt V0) (by kernel_rfl) hS0 ?_
    refine wpDet_take3 ?vW0 (Lt.stays V0) (fun _ h => h) (i := 0) rfl (by kernel_rfl) (by kernel_rfl) (by kernel_rfl) (by kernel_rfl) (fun _ _ _ h => h) (Gives3.value (by rfl) ?yW0) ?rW0
    case yW0 => (intro w' hSw; have g0 := At.cell (hG.below (Lt.out hSw)) 0; simp only [List.getElem?_toArray, List.getElem?_cons_zero, List.getElem?_cons_succ] at g0; (try dsimp only at hSw); go_simp; try with_reducible rfl)
    (try simp only [Act.put, List.getElem_toArray, List.getElem_cons_zero, List.getElem_cons_succ, List.setIfInBounds_toArray, List.set_cons_zero, List.set_cons_succ])
    refine wpDet_take3 ?vW1 (Lt.stays V0) (fun _ h => h) (i := 1) rfl (by kernel_rfl) (by kernel_rfl) (by kernel_rfl) (by kernel_rfl) (fun _ _ _ h => h) (Gives3.value (by rfl) ?yW1) ?rW1
    case yW1 => (intro w' hSw; (try dsimp only at hSw); go_simp; try with_reducible rfl)
    (try simp only [Act.put, List.getElem_toArray, List.getElem_cons_zero, List.getElem_cons_succ, List.setIfInBounds_toArray, List.set_cons_zero, List.set_cons_succ])
    refine wpDet_take3 ?vW2 (Lt.stays V0) (fun _ h => h) (i := 2) rfl (by kernel_rfl) (by kernel_rfl) (by kernel_rfl) (by kernel_rfl) (fun _ _ _ h => h) (Gives3.value (by rfl) ?yW2) ?rW2
    case yW2 => (intro w' hSw; (try dsimp only at hSw); go_simp; try with_reducible rfl)
    (try simp only [Act.put, List.getElem_toArray, List.getElem_cons_zero, List.getElem_cons_succ, List.setIfInBounds_toArray, List.set_cons_zero, List.set_cons_succ])
    refine wpDet_take3 (.agg #[.bool x.w, .string x.s, .int .i64 x.v, .int .i64 x.b, .int .i64 x.e]) (Lt.stays V0) (fun _ h => h) (i := 3) rfl (by kernel_rfl) (by kernel_rfl) (by kernel_rfl) (by kernel_rfl) (fun _ _ _ h => h) (Gives3.of_yields (yieldsIf_load_mid (by rfl) _ _ rfl _ _ rfl _ _ hr1 Try.underlying29 rfl infoOp)) ?_
    (try simp only [Act.put, List.getElem_toArray, List.getElem_cons_zero, List.getElem_cons_succ, List.setIfInBounds_toArray, List.set_cons_zero, List.set_cons_succ])
    refine wpDet_take3 ?vW4 (Lt.stays V0) (fun _ h => h) (i := 4) rfl (by kernel_rfl) (by kernel_rfl) (by kernel_rfl) (by kernel_rfl) (fun _ _ _ h => h) (Gives3.value (by rfl) ?yW4) ?rW4
    case yW4 => (intro w' hSw; have g0 := At.cell (hG.below (Lt.out hSw)) 0; simp only [List.getElem?_toArray, List.getElem?_cons_zero, List.getElem?_cons_succ] at g0; (try dsimp only at hSw); go_simp; try with_reducible rfl)
    (try simp only [Act.put, List.getElem_toArray, List.getElem_cons_zero, List.getElem_cons_succ, List.setIfInBounds_toArray, List.set_cons_zero, List.set_cons_succ])
    refine wpDet_take3 ?vW5 (Lt.stays V0) (fun _ h => h) (i := 5) rfl (by kernel_rfl) (by kernel_rfl) (by kernel_rfl) (by kernel_rfl) (fun _ _ _ h => h) (Gives3.value (by rfl) ?yW5) ?rW5
    case yW5 => (intro w' hSw; (try dsimp only at hSw); go_simp; try with_reducible rfl)
    (try simp only [Act.put, List.getElem_toArray, List.getElem_cons_zero, List.getElem_cons_succ, List.setIfInBounds_toArray, List.set_cons_zero, List.set_cons_succ])
    refine wpDet_take3 ?vW6 (Lt.stays V0) (fun _ h => h) (i := 6) rfl (by kernel_rfl) (by kernel_rfl) (by kernel_rfl) (by kernel_rfl) (fun _ _ _ h => h) (Gives3.value (by rfl) ?yW6) ?rW6
    case yW6 => (intro w' hSw; (try dsimp only at hSw); go_simp; try with_reducible rfl)
    (try simp only [Act.put, List.getElem_toArray, List.getElem_cons_zero, List.getElem_cons_succ, List.setIfInBounds_toArray, List.set_cons_zero, List.set_cons_succ])
    refine wpDet_take3 (.agg #[.bool y.w, .string y.s, .int .i64 y.v, .int .i64 y.b, .int .i64 y.e]) (Lt.stays V0) (fun _ h => h) (i := 7) rfl (by kernel_rfl) (by kernel_rfl) (by kernel_rfl) (by kernel_rfl) (fun _ _ _ h => h) (Gives3.of_yields (yieldsIf_load_mid (by rfl) _ _ rfl _ _ rfl _ _ hr2 Try.underlying29 rfl infoOp)) ?_
    (try simp only [Act.put, List.getElem_toArray, List.getElem_cons_zero, List.getElem_cons_succ, List.setIfInBounds_toArray, List.set_cons_zero, List.set_cons_succ])
    refine wpDet_ready3 (rs := [8, 9]) (by kernel_rfl) (by simp) (AllDet3.cons rfl (fun V hV K hK => ?_) (AllDet3.cons rfl (fun V hV K hK => ?_) AllDet3.nil))
    · rw [if_pos (by rfl)]
      refine wp_value (.pointer (some ⟨V.heap.size, 0, none⟩)) (V.alloc (.cells #[.bool false, .string ⟨#[]⟩, .int .i64 0, .int .i64 0, .int .i64 0] 29)) (by first | (go_simp; done) | (go_simp; rfl)) ?_
      have hz7 : A1 V0 V.heap.size (V.alloc (.cells #[.bool false, .string ⟨#[]⟩, .int .i64 0, .int .i64 0, .int .i64 0] 29)) := A1.mk' hV
      refine hK.out (A1 V0 V.heap.size) _ _ (A1.stays _ _) (fun _ _ h => h.1) hz7 ?_
      clear hK hz7
      obtain ⟨g6, hg6⟩ : ∃ g6, g6 = V.heap.size := ⟨_, rfl⟩
      rw [← hg6]
      clear hV hg6
      (try simp only [Act.put, List.getElem_toArray, List.getElem_cons_zero, List.getElem_cons_succ, List.setIfInBounds_toArray, List.set_cons_zero, List.set_cons_succ])
      refine wpDet_ready3 (rs := [9]) (by kernel_rfl) (by simp) (AllDet3.cons rfl (fun V hV K hK => ?_) AllDet3.nil)
      rw [if_pos (by rfl)]
      refine wp_value (.pointer (some ⟨V.heap.size, 0, none⟩)) (V.alloc (.cells #[.bool false, .string ⟨#[]⟩, .int .i64 0, .int .i64 0, .int .i64 0] 29)) (by first | (go_simp; done) | (go_simp; rfl)) ?_
      have hz7 : A2 V0 g6 V.heap.size (V.alloc (.cells #[.bool false, .string ⟨#[]⟩, .int .i64 0, .int .i64 0, .int .i64 0] 29)) := hV.two
      refine hK.out (A2 V0 g6 V.heap.size) _ _ (A2.stays _ _ _) (fun _ _ h => h.bl) hz7 ?_
      clear hK hz7
      obtain ⟨g7, hg7⟩ : ∃ g7, g7 = V.heap.size := ⟨_, rfl⟩
      rw [← hg7]
      clear hV hg7
      (try simp only [Act.put, List.getElem_toArray, List.getElem_cons_zero, List.getElem_cons_succ, List.setIfInBounds_toArray, List.set_cons_zero, List.set_cons_succ])
      refine wpDet_ready3 (rs := [10]) (by kernel_rfl) (by simp) (AllDet3.cons rfl (fun V hV K hK => ?_) AllDet3.nil)
      rw [if_pos (by rfl)]
      refine wp_store_row 29 _ _ rfl g6 #[.bool x.w, .string x.s, .int .i64 x.v, .int .i64 x.b, .int .i64 x.e] rfl rfl _ _ hV.a6 infoOp rfl oneOp ?_
      have hz9 : C1 V0 g6 g7 x (V.setRow g6 #[.bool x.w, .string x.s, .int .i64 x.v, .int .i64 x.b, .int .i64 x.e]) := hV.put
      refine hK.out (C1 V0 g6 g7 x) _ _ (C1.stays _ _ _ _) (fun _ _ h => h.bl) hz9 ?_
      clear hK K hV hz9
      (try simp only [Act.put, List.getElem_toArray, List.getElem_cons_zero, List.getElem_cons_succ, List.setIfInBounds_toArray, List.set_cons_zero, List.set_cons_succ])
      refine wpDet_ready3 (rs := [11]) (by kernel_rfl) (by simp) (AllDet3.cons rfl (fun V hV K hK => ?_) AllDet3.nil)
      rw [if_pos (by rfl)]
      refine wp_store_row 29 _ _ rfl g7 #[.bool y.w, .string y.s, .int .i64 y.v, .int .i64 y.b, .int .i64 y.e] rfl rfl _ _ hV.a7 infoOp rfl oneOp ?_
      have hz9 : C2 V0 g6 g7 x y (V.setRow g7 #[.bool y.w, .string y.s, .int .i64 y.v, .int .i64 y.b, .int .i64 y.e]) := hV.put
      refine hK.out (C2 V0 g6 g7 x y) _ _ (C2.stays _ _ _ _ _) (fun _ _ h => h.bl) hz9 ?_
      clear hK K hV hz9
      (try simp only [Act.put, List.getElem_toArray, List.getElem_cons_zero, List.getElem_cons_succ, List.setIfInBounds_toArray, List.set_cons_zero, List.set_cons_succ])
      refine wpDet_done3 (by kernel_rfl) (fun W9 hV => ?_) _
      exact ⟨g6, g7, rfl, hV⟩
    · rw [if_pos (by rfl)]
      refine wp_value (.pointer (some ⟨V.heap.size, 0, none⟩)) (V.alloc (.cells #[.bool false, .string ⟨#[]⟩, .int .i64 0, .int .i64 0, .int .i64 0] 29)) (by first | (go_simp; done) | (go_simp; rfl)) ?_
      have hz7 : A1 V0 V.heap.size (V.alloc (.cells #[.bool false, .string ⟨#[]⟩, .int .i64 0, .int .i64 0, .int .i64 0] 29)) := A1.mk' hV
      refine hK.out (A1 V0 V.heap.size) _ _ (A1.stays _ _) (fun _ _ h => h.1) hz7 ?_
      clear hK hz7
      obtain ⟨g7, hg7⟩ : ∃ g7, g7 = V.heap.size := ⟨_, rfl⟩
      rw [← hg7]
      clear hV hg7
      (try simp only [Act.put, List.getElem_toArray, List.getElem_cons_zero, List.getElem_cons_succ, List.setIfInBounds_toArray, List.set_cons_zero, List.set_cons_succ])
      refine wpDet_ready3 (rs := [8]) (by kernel_rfl) (by simp) (AllDet3.cons rfl (fun V hV K hK => ?_) AllDet3.nil)
      rw [if_pos (by rfl)]
      refine wp_value (.pointer (some ⟨V.heap.size, 0, none⟩)) (V.alloc (.cells #[.bool false, .string ⟨#[]⟩, .int .i64 0, .int .i64 0, .int .i64 0] 29)) (by first | (go_simp; done) | (go_simp; rfl)) ?_
      have hz7 : A2 V0 V.heap.size g7 (V.alloc (.cells #[.bool false, .string ⟨#[]⟩, .int .i64 0, .int .i64 0, .int .i64 0] 29)) := hV.two2
      refine hK.out (A2 V0 V.heap.size g7) _ _ (A2.stays _ _ _) (fun _ _ h => h.bl) hz7 ?_
      clear hK hz7
      obtain ⟨g6, hg6⟩ : ∃ g6, g6 = V.heap.size := ⟨_, rfl⟩
      rw [← hg6]
      clear hV hg6
      (try simp only [Act.put, List.getElem_toArray, List.getElem_cons_zero, List.getElem_cons_succ, List.setIfInBounds_toArray, List.set_cons_zero, List.set_cons_succ])
      refine wpDet_ready3 (rs := [10]) (by kernel_rfl) (by simp) (AllDet3.cons rfl (fun V hV K hK => ?_) AllDet3.nil)
      rw [if_pos (by rfl)]
      refine wp_store_row 29 _ _ rfl g6 #[.bool x.w, .string x.s, .int .i64 x.v, .int .i64 x.b, .int .i64 x.e] rfl rfl _ _ hV.a6 infoOp rfl oneOp ?_
      have hz9 : C1 V0 g6 g7 x (V.setRow g6 #[.bool x.w, .string x.s, .int .i64 x.v, .int .i64 x.b, .int .i64 x.e]) := hV.put
      refine hK.out (C1 V0 g6 g7 x) _ _ (C1.stays _ _ _ _) (fun _ _ h => h.bl) hz9 ?_
      clear hK K hV hz9
      (try simp only [Act.put, List.getElem_toArray, List.getElem_cons_zero, List.getElem_cons_succ, List.setIfInBounds_toArray, List.set_cons_zero, List.set_cons_succ])
      refine wpDet_ready3 (rs := [11]) (by kernel_rfl) (by simp) (AllDet3.cons rfl (fun V hV K hK => ?_) AllDet3.nil)
      rw [if_pos (by rfl)]
      refine wp_store_row 29 _ _ rfl g7 #[.bool y.w, .string y.s, .int .i64 y.v, .int .i64 y.b, .int .i64 y.e] rfl rfl _ _ hV.a7 infoOp rfl oneOp ?_
      have hz9 : C2 V0 g6 g7 x y (V.setRow g7 #[.bool y.w, .string y.s, .int .i64 y.v, .int .i64 y.b, .int .i64 y.e]) := hV.put
      refine hK.out (C2 V0 g6 g7 x y) _ _ (C2.stays _ _ _ _ _) (fun _ _ h => h.bl) hz9 ?_
      clear hK K hV hz9
      (try simp only [Act.put, List.getElem_toArray, List.getElem_cons_zero, List.getElem_cons_succ, List.setIfInBounds_toArray, List.set_cons_zero, List.set_cons_succ])
      refine wpDet_done3 (by kernel_rfl) (fun W9 hV => ?_) _
      exact ⟨g6, g7, rfl, hV⟩
  intro g6 g7 V1 hV1
  have h6 := hV1.a6
  have h7 := hV1.a7
  have hB1 : Later V0 V1 := hV1.bl
  clear hV1 hr1 hr2 hG hS0
  go_wp2_with fail
  have hS1 : Lt V1 V1.drew := Later.drew _
  refine wp_region_det3 [0, 1, 2, 3, 4, 5, 6, 7, 8, 9, 10, 11, 12, 13, 14, 15, 16, 17, 20] (Lt V1) (Lt V1) (by kernel_rfl) hS1 ?_
  refine wpDet_take3 ?vX0 (Lt.stays V1) (fun _ h => h) (i := 0) rfl (by kernel_rfl) (by kernel_rfl) (by kernel_rfl) (by kernel_rfl) (fun _ _ _ h => h) (Gives3.value (by rfl) ?yX0) ?rX0
  case yX0 => (intro w' hSw; (try dsimp only at hSw); go_simp; try with_reducible rfl)
  (try simp only [Act.put, List.getElem_toArray, List.getElem_cons_zero, List.getElem_cons_succ, List.setIfInBounds_toArray, List.set_cons_zero, List.set_cons_succ])
  refine wpDet_take3 ?vX1 (Lt.stays V1) (fun _ h => h) (i := 1) rfl (by kernel_rfl) (by kernel_rfl) (by kernel_rfl) (by kernel_rfl) (fun _ _ _ h => h) (Gives3.value (by rfl) ?yX1) ?rX1
  case yX1 => (intro w' hSw; have y2 := At.cell (At.below h6 (Lt.out hSw)) 2; simp only [List.getElem?_toArray, List.getElem?_cons_zero, List.getElem?_cons_succ] at y2; (try dsimp only at hSw); go_simp; try with_reducible rfl)
  (try simp only [Act.put, List.getElem_toArray, List.getElem_cons_zero, List.getElem_cons_succ, List.setIfInBounds_toArray, List.set_cons_zero, List.set_cons_succ])
  refine wpDet_take3 ?vX2 (Lt.stays V1) (fun _ h => h) (i := 2) rfl (by kernel_rfl) (by kernel_rfl) (by kernel_rfl) (by kernel_rfl) (fun _ _ _ h => h) (Gives3.value (by rfl) ?yX2) ?rX2
  case yX2 => (intro w' hSw; (try dsimp only at hSw); go_simp; try with_reducible rfl)
  (try simp only [Act.put, List.getElem_toArray, List.getElem_cons_zero, List.getElem_cons_succ, List.setIfInBounds_toArray, List.set_cons_zero, List.set_cons_succ])
  refine wpDet_take3 ?vX3 (Lt.stays V1) (fun _ h => h) (i := 3) rfl (by kernel_rfl) (by kernel_rfl) (by kernel_rfl) (by kernel_rfl) (fun _ _ _ h => h) (Gives3.value (by rfl) ?yX3) ?rX3
  case yX3 => (intro w' hSw; have z2 := At.cell (At.below h7 (Lt.out hSw)) 2; simp only [List.getElem?_toArray, List.getElem?_cons_zero, List.getElem?_cons_succ] at z2; (try dsimp only at hSw); go_simp; try with_reducible rfl)
  (try simp only [Act.put, List.getElem_toArray, List.getElem_cons_zero, List.getElem_cons_succ, List.setIfInBounds_toArray, List.set_cons_zero, List.set_cons_succ])
  refine wpDet_take3 (.int .i64 (cmpI x.v y.v)) (Lt.stays V1) (fun _ h => h) (i := 4) rfl (by kernel_rfl) (by kernel_rfl) (by kernel_rfl) (by kernel_rfl) (fun _ _ _ h => h) (Gives3.call 40 #[.int .i64 x.v, .int .i64 y.v] (by rfl) (fun _ => by first | (go_simp; done) | (go_simp; rfl)) (fun W hW => (compare_later x.v y.v _))) ?_
  (try simp only [Act.put, List.getElem_toArray, List.getElem_cons_zero, List.getElem_cons_succ, List.setIfInBounds_toArray, List.set_cons_zero, List.set_cons_succ])
  refine wpDet_take3 (.agg #[.bool x.w, .string x.s, .int .i64 x.v, .int .i64 x.b, .int .i64 x.e]) (Lt.stays V1) (fun _ h => h) (i := 5) rfl (by kernel_rfl) (by kernel_rfl) (by kernel_rfl) (by kernel_rfl) (fun _ _ _ h => h) (Gives3.of_yields (yieldsIf_load_mid (by rfl) _ _ rfl _ _ rfl _ _ (fun W h => At.range (At.below h6 (Lt.out h))) Try.underlying29 rfl infoOp)) ?_
  (try simp only [Act.put, List.getElem_toArray, List.getElem_cons_zero, List.getElem_cons_succ, List.setIfInBounds_toArray, List.set_cons_zero, List.set_cons_succ])
  refine wpDet_take3 (.int .i64 (rkO x : Nat)) (Lt.stays V1) (fun _ h => h) (i := 6) rfl (by kernel_rfl) (by kernel_rfl) (by kernel_rfl) (by kernel_rfl) (fun _ _ _ h => h) (Gives3.call 41 #[.agg #[.bool x.w, .string x.s, .int .i64 x.v, .int .i64 x.b, .int .i64 x.e]] (by rfl) (fun _ => by first | (go_simp; done) | (go_simp; rfl)) (fun W hW => (rank_any x _))) ?_
  (try simp only [Act.put, List.getElem_toArray, List.getElem_cons_zero, List.getElem_cons_succ, List.setIfInBounds_toArray, List.set_cons_zero, List.set_cons_succ])
  refine wpDet_take3 (.agg #[.bool y.w, .string y.s, .int .i64 y.v, .int .i64 y.b, .int .i64 y.e]) (Lt.stays V1) (fun _ h => h) (i := 7) rfl (by kernel_rfl) (by kernel_rfl) (by kernel_rfl) (by kernel_rfl) (fun _ _ _ h => h) (Gives3.of_yields (yieldsIf_load_mid (by rfl) _ _ rfl _ _ rfl _ _ (fun W h => At.range (At.below h7 (Lt.out h))) Try.underlying29 rfl infoOp)) ?_
  (try simp only [Act.put, List.getElem_toArray, List.getElem_cons_zero, List.getElem_cons_succ, List.setIfInBounds_toArray, List.set_cons_zero, List.set_cons_succ])
  refine wpDet_take3 (.int .i64 (rkO y : Nat)) (Lt.stays V1) (fun _ h => h) (i := 8) rfl (by kernel_rfl) (by kernel_rfl) (by kernel_rfl) (by kernel_rfl) (fun _ _ _ h => h) (Gives3.call 41 #[.agg #[.bool y.w, .string y.s, .int .i64 y.v, .int .i64 y.b, .int .i64 y.e]] (by rfl) (fun _ => by first | (go_simp; done) | (go_simp; rfl)) (fun W hW => (rank_any y _))) ?_
  (try simp only [Act.put, List.getElem_toArray, List.getElem_cons_zero, List.getElem_cons_succ, List.setIfInBounds_toArray, List.set_cons_zero, List.set_cons_succ])
  refine wpDet_take3 (.int .i64 (cmpI (rkO x : Nat) (rkO y : Nat))) (Lt.stays V1) (fun _ h => h) (i := 9) rfl (by kernel_rfl) (by kernel_rfl) (by kernel_rfl) (by kernel_rfl) (fun _ _ _ h => h) (Gives3.call 40 #[.int .i64 (rkO x : Nat), .int .i64 (rkO y : Nat)] (by rfl) (fun _ => by first | (go_simp; done) | (go_simp; rfl)) (fun W hW => (compare_later (rkO x : Nat) (rkO y : Nat) _))) ?_
  (try simp only [Act.put, List.getElem_toArray, List.getElem_cons_zero, List.getElem_cons_succ, List.setIfInBounds_toArray, List.set_cons_zero, List.set_cons_succ])
  refine wpDet_take3 ?vX10 (Lt.stays V1) (fun _ h => h) (i := 10) rfl (by kernel_rfl) (by kernel_rfl) (by kernel_rfl) (by kernel_rfl) (fun _ _ _ h => h) (Gives3.value (by rfl) ?yX10) ?rX10
  case yX10 => (intro w' hSw; (try dsimp only at hSw); go_simp; try with_reducible rfl)
  (try simp only [Act.put, List.getElem_toArray, List.getElem_cons_zero, List.getElem_cons_succ, List.setIfInBounds_toArray, List.set_cons_zero, List.set_cons_succ])
  refine wpDet_take3 ?vX11 (Lt.stays V1) (fun _ h => h) (i := 11) rfl (by kernel_rfl) (by kernel_rfl) (by kernel_rfl) (by kernel_rfl) (fun _ _ _ h => h) (Gives3.value (by rfl) ?yX11) ?rX11
  case yX11 => (intro w' hSw; have y3 := At.cell (At.below h6 (Lt.out hSw)) 3; simp only [List.getElem?_toArray, List.getElem?_cons_zero, List.getElem?_cons_succ] at y3; (try dsimp only at hSw); go_simp; try with_reducible rfl)
  (try simp only [Act.put, List.getElem_toArray, List.getElem_cons_zero, List.getElem_cons_succ, List.setIfInBounds_toArray, List.set_cons_zero, List.set_cons_succ])
  refine wpDet_take3 ?vX12 (Lt.stays V1) (fun _ h => h) (i := 12) rfl (by kernel_rfl) (by kernel_rfl) (by kernel_rfl) (by kernel_rfl) (fun _ _ _ h => h) (Gives3.value (by rfl) ?yX12) ?rX12
  case yX12 => (intro w' hSw; (try dsimp only at hSw); go_simp; try with_reducible rfl)
  (try simp only [Act.put, List.getElem_toArray, List.getElem_cons_zero, List.getElem_cons_succ, List.setIfInBounds_toArray, List.set_cons_zero, List.set_cons_succ])
  refine wpDet_take3 ?vX13 (Lt.stays V1) (fun _ h => h) (i := 13) rfl (by kernel_rfl) (by kernel_rfl) (by kernel_rfl) (by kernel_rfl) (fun _ _ _ h => h) (Gives3.value (by rfl) ?yX13) ?rX13
  case yX13 => (intro w' hSw; have z3 := At.cell (At.below h7 (Lt.out hSw)) 3; simp only [List.getElem?_toArray, List.getElem?_cons_zero, List.getElem?_cons_succ] at z3; (try dsimp only at hSw); go_simp; try with_reducible rfl)
  (try simp only [Act.put, List.getElem_toArray, List.getElem_cons_zero, List.getElem_cons_succ, List.setIfInBounds_toArray, List.set_cons_zero, List.set_cons_succ])
  refine wpDet_take3 (.int .i64 (cmpI x.b y.b)) (Lt.stays V1) (fun _ h => h) (i := 14) rfl (by kernel_rfl) (by kernel_rfl) (by kernel_rfl) (by kernel_rfl) (fun _ _ _ h => h) (Gives3.call 40 #[.int .i64 x.b, .int .i64 y.b] (by rfl) (fun _ => by first | (go_simp; done) | (go_simp; rfl)) (fun W hW => (compare_later x.b y.b _))) ?_
  (try simp only [Act.put, List.getElem_toArray, List.getElem_cons_zero, List.getElem_cons_succ, List.setIfInBounds_toArray, List.set_cons_zero, List.set_cons_succ])
  refine wpDet_take3 ?vX15 (Lt.stays V1) (fun _ h => h) (i := 15) rfl (by kernel_rfl) (by kernel_rfl) (by kernel_rfl) (by kernel_rfl) (fun _ _ _ h => h) (Gives3.value (by rfl) ?yX15) ?rX15
  case yX15 => (intro w' hSw; (try dsimp only at hSw); go_simp; try with_reducible rfl)
  (try simp only [Act.put, List.getElem_toArray, List.getElem_cons_zero, List.getElem_cons_succ, List.setIfInBounds_toArray, List.set_cons_zero, List.set_cons_succ])
  refine wpDet_take3 ?vX16 (Lt.stays V1) (fun _ h => h) (i := 16) rfl (by kernel_rfl) (by kernel_rfl) (by kernel_rfl) (by kernel_rfl) (fun _ _ _ h => h) (Gives3.value (by rfl) ?yX16) ?rX16
  case yX16 => (intro w' hSw; (try dsimp only at hSw); go_simp; try with_reducible rfl)
  (try simp only [Act.put, List.getElem_toArray, List.getElem_cons_zero, List.getElem_cons_succ, List.setIfInBounds_toArray, List.set_cons_zero, List.set_cons_succ])
  refine wpDet_take3 (.int .i64 (cmpI (i : Int) (j : Int))) (Lt.stays V1) (fun _ h => h) (i := 17) rfl (by kernel_rfl) (by kernel_rfl) (by kernel_rfl) (by kernel_rfl) (fun _ _ _ h => h) (Gives3.call 40 #[.int .i64 (i : Int), .int .i64 (j : Int)] (by rfl) (fun _ => by first | (go_simp; done) | (go_simp; rfl)) (fun W hW => (compare_later (i : Int) (j : Int) _))) ?_
  (try simp only [Act.put, List.getElem_toArray, List.getElem_cons_zero, List.getElem_cons_succ, List.setIfInBounds_toArray, List.set_cons_zero, List.set_cons_succ])
  refine wpDet_ready3 (rs := [18]) (by kernel_rfl) (by simp) (AllDet3.cons rfl (fun V hV K hK => ?_) AllDet3.nil)
  rw [if_pos (by rfl)]
  refine wp_value (.slice (some ⟨V.heap.size, 0, none⟩) 4 4) (V.alloc (.cells #[.int .i64 (cmpI x.v y.v), .int .i64 (cmpI (rkO x : Nat) (rkO y : Nat)), .int .i64 (cmpI x.b y.b), .int .i64 (cmpI (i : Int) (j : Int))] 3)) (by first | (go_simp; done) | (go_simp; rfl)) ?_
  have hz7 : L4 V1 V.heap.size #[.int .i64 (cmpI x.v y.v), .int .i64 (cmpI (rkO x : Nat) (rkO y : Nat)), .int .i64 (cmpI x.b y.b), .int .i64 (cmpI (i : Int) (j : Int))] (V.alloc (.cells #[.int .i64 (cmpI x.v y.v), .int .i64 (cmpI (rkO x : Nat) (rkO y : Nat)), .int .i64 (cmpI x.b y.b), .int .i64 (cmpI (i : Int) (j : Int))] 3)) := ⟨Lt.stays V1 V _ hV (Later.alloc _ _), At.new _ _ _⟩
  refine hK.out (L4 V1 V.heap.size #[.int .i64 (cmpI x.v y.v), .int .i64 (cmpI (rkO x : Nat) (rkO y : Nat)), .int .i64 (cmpI x.b y.b), .int .i64 (cmpI (i : Int) (j : Int))]) _ _ (L4.stays _ _ _) (fun _ _ h => h.1) hz7 ?_
  clear hK hz7
  obtain ⟨gl, hgl⟩ : ∃ gl, gl = V.heap.size := ⟨_, rfl⟩
  rw [← hgl]
  clear hV hgl
  (try simp only [Act.put, List.getElem_toArray, List.getElem_cons_zero, List.getElem_cons_succ, List.setIfInBounds_toArray, List.set_cons_zero, List.set_cons_succ])
  refine wpDet_ready3 (rs := [19]) (by kernel_rfl) (by simp) (AllDet3.cons rfl (fun V hV K hK => ?_) AllDet3.nil)
  rw [if_pos (by rfl)]
  refine wp_enterX 39 #[.slice (some ⟨gl, 0, none⟩) 4 4] (by first | (go_simp; done) | (go_simp; rfl)) (fun x7 W => x7 = (.int .i64 (or4 (cmpI x.v y.v) (cmpI (rkO x : Nat) (rkO y : Nat)) (cmpI x.b y.b) (cmpI (i : Int) (j : Int)))) ∧ Later V W) ((or_four V gl _ _ _ _ hV.2).mono fun r w' ⟨h1, h2⟩ => ⟨_, h1, rfl, h2⟩) ?_
  rintro x7 V7 ⟨rfl, hbx⟩
  have hz8 : Lt V1 V7 := Lt.stays V1 V _ hV.1 hbx
  refine hK.out (Lt V1) _ _ (Lt.stays V1) (fun _ _ h => h) hz8 ?_
  clear hK K hV hbx hz8
  (try simp only [Act.put, List.getElem_toArray, List.getElem_cons_zero, List.getElem_cons_succ, List.setIfInBounds_toArray, List.set_cons_zero, List.set_cons_succ])
  refine wpDet_take3 ?vX20 (Lt.stays V1) (fun _ h => h) (i := 20) rfl (by kernel_rfl) (by kernel_rfl) (by kernel_rfl) (by kernel_rfl) (fun _ _ _ h => h) (Gives3.value (by rfl) ?yX20) ?rX20
  case yX20 => (intro w' hSw; (try dsimp only at hSw); go_simp; try with_reducible rfl)
  (try simp only [Act.put, List.getElem_toArray, List.getElem_cons_zero, List.getElem_cons_succ, List.setIfInBounds_toArray, List.set_cons_zero, List.set_cons_succ])
  refine wpDet_done3 (by kernel_rfl) (fun W9 hV => ?_) _
  go_wp2_with fail
  go_ret
  exact ⟨rfl, hB1.trans hV⟩

end Go.Proofs.Ytmfmjoibofadlaa.M
