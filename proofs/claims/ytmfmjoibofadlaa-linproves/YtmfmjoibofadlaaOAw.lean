/-
  Own text: the examples.
-/
import Derived.Test.YtmfmjoibofadlaaOEqI
namespace Go.Proofs.Ytmfmjoibofadlaa.M
open Go.ChangeShapes Go.WideShapes Go.ChangeAt Go.RowKit
set_option linter.unusedSimpArgs false

theorem rdo2 (w : World) (l m : Lo) : RdO (w.alloc (.cells #[.bool l.w, .string l.s, .int .i64 l.v, .int .i64 l.b, .int .i64 l.e, .bool m.w, .string m.s, .int .i64 m.v, .int .i64 m.b, .int .i64 m.e] 29)) (some ⟨w.heap.size, 0, none⟩) 2 2 [l, m] := by
  refine ⟨rfl, Nat.le_refl _, (fun h => by cases h), fun _ => ⟨_, 0, rfl, fun i hi => ?_⟩⟩
  match i, hi with
  | 0, _ => refine ⟨?_, ?_, ?_, ?_, ?_⟩ <;> simp
  | 1, _ => refine ⟨?_, ?_, ?_, ?_, ?_⟩ <;> simp

theorem rdo3 (w : World) (l m k : Lo) : RdO (w.alloc (.cells #[.bool l.w, .string l.s, .int .i64 l.v, .int .i64 l.b, .int .i64 l.e, .bool m.w, .string m.s, .int .i64 m.v, .int .i64 m.b, .int .i64 m.e, .bool k.w, .string k.s, .int .i64 k.v, .int .i64 k.b, .int .i64 k.e] 29)) (some ⟨w.heap.size, 0, none⟩) 3 3 [l, m, k] := by
  refine ⟨rfl, Nat.le_refl _, (fun h => by cases h), fun _ => ⟨_, 0, rfl, fun i hi => ?_⟩⟩
  match i, hi with
  | 0, _ => refine ⟨?_, ?_, ?_, ?_, ?_⟩ <;> simp
  | 1, _ => refine ⟨?_, ?_, ?_, ?_, ?_⟩ <;> simp
  | 2, _ => refine ⟨?_, ?_, ?_, ?_, ?_⟩ <;> simp

theorem rdo1 (w : World) (l : Lo) : RdO (w.alloc (.cells #[.bool l.w, .string l.s, .int .i64 l.v, .int .i64 l.b, .int .i64 l.e] 29)) (some ⟨w.heap.size, 0, none⟩) 1 1 [l] := by
  refine ⟨rfl, Nat.le_refl _, (fun h => by cases h), fun _ => ⟨_, 0, rfl, fun i hi => ?_⟩⟩
  match i, hi with
  | 0, _ => refine ⟨?_, ?_, ?_, ?_, ?_⟩ <;> simp

theorem str_le (L : List Lo) (h : ∀ l ∈ L, l.s.size ≤ 24) (i : Nat) : (L.getD i .z0).s.size ≤ 24 := by
  rw [List.getD_eq_getElem?_getD]
  cases e : L[i]? with
  | none => exact Nat.zero_le _
  | some l => exact h l (List.mem_of_getElem? e)

theorem some_of {α β : Type} {o : Option (Bool × α × β)} {r : Bool} (h : o.map (fun x => x.1) = some r) : ∃ a b, o = some (r, a, b) := by
  cases o with
  | none => cases h
  | some x => exact ⟨x.2.1, x.2.2, by rw [← Option.some.inj h]⟩

theorem some_of2 {α β : Type} {o : Option (Bool × α × β)} {r : Bool} {b : β} (h : o.map (fun x => (x.1, x.2.2)) = some (r, b)) : ∃ a, o = some (r, a, b) := by
  cases o with
  | none => cases h
  | some x =>
    obtain ⟨h1, h2⟩ := Prod.mk.inj (Option.some.inj h)
    exact ⟨x.2.1, by rw [← h1, ← h2]⟩

set_option maxRecDepth 20000 in
set_option maxHeartbeats 4000000 in
theorem awake_any (w : World) : Calls Try.prog 11 #[] w fun e w' => e = .returned (.bool true) ∧ Below w.heap.size w w' := by
  obtain ⟨K1, f1⟩ := some_of2 ex1
  obtain ⟨K2, R2, f2⟩ := some_of ex2
  obtain ⟨K3, R3, f3⟩ := some_of ex3
  have hO1 := fun W => order_any _ 2 2 [exW, exA] _ (rdo2 W exW exA) (by decide) (by decide) (by decide +kernel) (str_le _ (by decide +kernel)) exR1 4 (by decide) _ _ _ f1
  have hO2 := fun W => order_any _ 2 2 [exW, exE] _ (rdo2 W exW exE) (by decide) (by decide) (by decide +kernel) (str_le _ (by decide +kernel)) exR2 4 (by decide) _ _ _ f2
  have hO3 := fun W => order_any _ 3 3 [exN, exB, exC] _ (rdo3 W exN exB exC) (by decide) (by decide) (by decide +kernel) (str_le _ (by decide +kernel)) exR3 5 (by decide) _ _ _ f3
  have hR := fun W => right_any _ 1 1 [.z0] _ (rdo1 W .z0)
  have hb0 := below_alloc w (.cells #[.bool true, .string ⟨#[97]⟩, .int .i64 1, .int .i64 1, .int .i64 2] 29)
  have hB0 := Bx.new w exW 29
  have hz0 : ∀ i, (w.alloc (.cells #[.bool true, .string ⟨#[97]⟩, .int .i64 1, .int .i64 1, .int .i64 2] 29)).frozen? ⟨w.heap.size, i, none⟩ = false := fun i => frozen_of_row _ _ _ _ _ (heap_alloc_new _ _)
  unfold exW at hB0
  dsimp only at hB0
  go_enter Try.func11, Try.ntmps11
  go_wp2_with fail
  have s0 : (w.alloc (.cells #[.bool true, .string ⟨#[97]⟩, .int .i64 1, .int .i64 1, .int .i64 2] 29)).heap.size = w.heap.size + 1 := by simp
  have h1 := hO1 (w.alloc (.cells #[.bool true, .string ⟨#[97]⟩, .int .i64 1, .int .i64 1, .int .i64 2] 29))
  rw [s0] at h1
  have ha1 := below_alloc (w.alloc (.cells #[.bool true, .string ⟨#[97]⟩, .int .i64 1, .int .i64 1, .int .i64 2] 29)) (.cells #[.bool true, .string ⟨#[97]⟩, .int .i64 1, .int .i64 1, .int .i64 2, .bool false, .string ⟨#[97]⟩, .int .i64 1, .int .i64 3, .int .i64 4] 29)
  refine h1.mono ?_
  rintro e1 w1 ⟨q1, k1, d1, rfl, hrow, hb1⟩
  have hrow0 : Rd .i64 w1 q1 k1 d1 [0, 1] ∧ ∀ a, q1 = some a → w.heap.size < a.block := by
    have hq := hrow trivial
    refine ⟨hq.1, fun a ha => ?_⟩
    have h5 := hq.2 a ha
    simp at h5
    omega
  obtain ⟨hrow1, hqb⟩ := hrow0
  have hb01 : Below (w.heap.size + 1) (w.alloc (.cells #[.bool true, .string ⟨#[97]⟩, .int .i64 1, .int .i64 1, .int .i64 2] 29)) w1 := by
    rw [← s0]
    exact ha1.trans (Below.mono hb1 (by simp))
  have hBx1 : Bx w1 w.heap.size exW := Bx.below (w := (w.alloc (.cells #[.bool true, .string ⟨#[97]⟩, .int .i64 1, .int .i64 1, .int .i64 2] 29))) hB0 (by rw [s0]; exact hb01)
  have hz1 : w1.frozen? ⟨w.heap.size, 4, none⟩ = false := (hb01.frozen (p := ⟨w.heap.size, 4, none⟩) (Nat.lt_succ_self _)).trans (hz0 4)
  have hbw1 : Below w.heap.size w w1 := hb0.trans (hb01.mono (Nat.le_succ _))
  clear h1 hO1 ha1 hb1 hb01 hB0 hz0 hrow hb0 s0 f1
  obtain ⟨y0, y1, y2, y3, y4⟩ := hBx1
  unfold exW at y0 y1 y2 y3 y4
  dsimp only at y0 y1 y2 y3 y4
  have hlt1 := World.block_lt_of_cell? _ _ y0
  go_wp2_with fail
  have h2 := hO2 w1
  have ha2 := below_alloc w1 (.cells #[.bool true, .string ⟨#[97]⟩, .int .i64 1, .int .i64 1, .int .i64 2, .bool false, .string ⟨#[]⟩, .int .i64 0, .int .i64 3, .int .i64 4] 29)
  refine h2.mono ?_
  rintro e2 w2 ⟨q2, k2, d2, rfl, _, hb2⟩
  have hb12 : Below w1.heap.size w1 w2 := ha2.trans (Below.mono hb2 (by simp))
  have z0 := (hb12.cell (p := ⟨w.heap.size, 0, none⟩) hlt1).trans y0
  have z1 := (hb12.cell (p := ⟨w.heap.size, 1, none⟩) hlt1).trans y1
  have z2 := (hb12.cell (p := ⟨w.heap.size, 2, none⟩) hlt1).trans y2
  have z3 := (hb12.cell (p := ⟨w.heap.size, 3, none⟩) hlt1).trans y3
  have z4 := (hb12.cell (p := ⟨w.heap.size, 4, none⟩) hlt1).trans y4
  have hz2 := (hb12.frozen (p := ⟨w.heap.size, 4, none⟩) hlt1).trans hz1
  have hrow2 := hrow1.below hb12
  have hbw2 := hbw1.trans (hb12.mono hbw1.size)
  have hbw3 := hbw2.setCell (p := ⟨w.heap.size, 4, none⟩) (Nat.le_refl _) (.int .i64 0)
  clear h2 hO2 ha2 hb2 hb12 y0 y1 y2 y3 y4 hz1 hrow1 hbw1 hlt1 f2
  have c0 : (w2.setCell ⟨w.heap.size, 4, none⟩ (.int .i64 0)).cell? ⟨w.heap.size, 4, none⟩ = some (.int .i64 0) := World.cell?_setCell_same _ _ _ z4
  have co : ∀ (i : Nat) (u : Value), i ≠ 4 → w2.cell? ⟨w.heap.size, i, none⟩ = some u → (w2.setCell ⟨w.heap.size, 4, none⟩ (.int .i64 0)).cell? ⟨w.heap.size, i, none⟩ = some u := fun i u hi e => by
    rw [World.cell?_setCell_other (h := fun e2 => hi (congrArg Addr.off e2).symm)]; exact e
  have u0 := co 0 _ (by decide) z0
  have u1 := co 1 _ (by decide) z1
  have u2 := co 2 _ (by decide) z2
  have u3 := co 3 _ (by decide) z3
  have hrow3 := hrow2.ch (Ch.setCell w2 ⟨w.heap.size, 4, none⟩ (.int .i64 0)) (fun a ha e => by have e1 : a.block = w.heap.size := e; have := hqb a ha; omega)
  clear co hrow2 hqb z0 z1 z2 z3
  have sz3 : (w2.setCell ⟨w.heap.size, 4, none⟩ (.int .i64 0)).heap.size = w2.heap.size := by simp
  have h3 := hO3 (w2.setCell ⟨w.heap.size, 4, none⟩ (.int .i64 0))
  rw [sz3] at h3
  go_wp2_with fail
  refine h3.mono ?_
  rintro e3 w4 ⟨q3, k3, d3, rfl, _, hb3⟩
  have ha3 := below_alloc (w2.setCell ⟨w.heap.size, 4, none⟩ (.int .i64 0)) (.cells #[.bool true, .string ⟨#[97]⟩, .int .i64 1, .int .i64 1, .int .i64 0, .bool false, .string ⟨#[97]⟩, .int .i64 0, .int .i64 3, .int .i64 4, .bool false, .string ⟨#[]⟩, .int .i64 0, .int .i64 5, .int .i64 6] 29)
  have hb34 : Below (w2.setCell ⟨w.heap.size, 4, none⟩ (.int .i64 0)).heap.size (w2.setCell ⟨w.heap.size, 4, none⟩ (.int .i64 0)) w4 := ha3.trans (Below.mono hb3 (by simp))
  have hrow4 := hrow3.below hb34
  have hbw4 := hbw3.trans (hb34.mono hbw3.size)
  clear h3 hO3 ha3 hb3 hb34 hrow3 u0 u1 u2 u3 c0 hbw3 hbw2 z4 hz2 sz3 f3
  have hk1 := hrow4.len
  have hk2 : k1 = 2 := hk1.symm
  subst hk2
  have hba5 := below_alloc w4 (.cells #[.int .i64 0, .int .i64 1] 3)
  have hr01 : Rd .i64 (w4.alloc (.cells #[.int .i64 0, .int .i64 1] 3)) (some ⟨w4.heap.size, 0, none⟩) 2 2 [0, 1] := by
    refine ⟨rfl, Nat.le_refl _, (fun h => by cases h), fun _ => ⟨_, 0, rfl, fun i hi => ?_⟩⟩
    match i, hi with
    | 0, _ => simp
    | 1, _ => simp
  have hE := eqInts_any q1 _ 2 d1 2 [0, 1] _ (hrow4.below hba5) hr01 (by decide)
  go_wp2_with fail
  refine hE.mono ?_
  rintro e5 w5 ⟨rfl, hb5⟩
  have hbw5 := hbw4.trans ((hba5.trans (Below.mono hb5 (by simp))).mono hbw4.size)
  clear hE hr01 hrow4 hba5 hb5 hk1 hbw4
  have hRr := hR w5
  rw [exR0] at hRr
  have hba6 := below_alloc w5 (.cells #[.bool false, .string ⟨#[]⟩, .int .i64 0, .int .i64 0, .int .i64 0] 29)
  go_wp2_with fail
  refine hRr.mono ?_
  rintro e6 w6 ⟨rfl, hb6⟩
  have hbw6 := hbw5.trans ((hba6.trans (Below.mono hb6 (by simp))).mono hbw5.size)
  clear hRr hR hba6 hb6
  go_wp2_with fail
  go_ret
  exact ⟨rfl, hbw6⟩

end Go.Proofs.Ytmfmjoibofadlaa.M
