/-
  Own text: contracts of route's askerAt, askerOf, to, nearer, through, and of the reference's 'may'.
-/
import Derived.Test.YtdjeafaaclhpkaaZRefC
import Derived.Test.YtdjeafaaclhpkaaYSort
namespace Go.Proofs.Ytdjeafaaclhpkaa.M
open Go.ChangeShapes Go.WideShapes Go.ChangeAt Go.RowKit

/-- Why nothing can be told; 0: it can. -/
def mayR (e : Int) (ms : List Mb) (xs : List Int) (st : Int) : Int := if chk e ms = true then (if okW xs = true ∧ isSt st = true then 0 else 1) else 80

theorem new_at {t : TypeId} {k : IntKind} {w : World} {g g2 : Nat} {xs : List Int} (e : g = g2) (h : ArrI t k w g xs) : ArrI t k w g2 xs := e ▸ h

theorem nine {t : TypeId} {w : World} {g : Nat} {a0 a1 a2 a3 a4 a5 a6 a7 a8 : Int} (h : ArrI t .i64 w g [a0, a1, a2, a3, a4, a5, a6, a7, a8]) : w.cell? ⟨g, 0, none⟩ = some (.int .i64 a0) ∧ w.cell? ⟨g, 1, none⟩ = some (.int .i64 a1) ∧ w.cell? ⟨g, 2, none⟩ = some (.int .i64 a2) ∧ w.cell? ⟨g, 3, none⟩ = some (.int .i64 a3) ∧ w.cell? ⟨g, 4, none⟩ = some (.int .i64 a4) ∧ w.cell? ⟨g, 5, none⟩ = some (.int .i64 a5) ∧ w.cell? ⟨g, 6, none⟩ = some (.int .i64 a6) ∧ w.cell? ⟨g, 7, none⟩ = some (.int .i64 a7) ∧ w.cell? ⟨g, 8, none⟩ = some (.int .i64 a8) :=
  ⟨h.cell (i := 0) (by simp), h.cell (i := 1) (by simp), h.cell (i := 2) (by simp), h.cell (i := 3) (by simp), h.cell (i := 4) (by simp), h.cell (i := 5) (by simp), h.cell (i := 6) (by simp), h.cell (i := 7) (by simp), h.cell (i := 8) (by simp)⟩

theorem ten {t : TypeId} {w : World} {g : Nat} {a0 a1 a2 a3 a4 a5 a6 a7 a8 st : Int} (h : ArrI t .i64 w g [a0, a1, a2, a3, a4, a5, a6, a7, a8, st]) : w.cell? ⟨g, 0, none⟩ = some (.int .i64 a0) ∧ w.cell? ⟨g, 1, none⟩ = some (.int .i64 a1) ∧ w.cell? ⟨g, 2, none⟩ = some (.int .i64 a2) ∧ w.cell? ⟨g, 3, none⟩ = some (.int .i64 a3) ∧ w.cell? ⟨g, 4, none⟩ = some (.int .i64 a4) ∧ w.cell? ⟨g, 5, none⟩ = some (.int .i64 a5) ∧ w.cell? ⟨g, 6, none⟩ = some (.int .i64 a6) ∧ w.cell? ⟨g, 7, none⟩ = some (.int .i64 a7) ∧ w.cell? ⟨g, 8, none⟩ = some (.int .i64 a8) ∧ w.cell? ⟨g, 9, none⟩ = some (.int .i64 st) :=
  ⟨h.cell (i := 0) (by simp), h.cell (i := 1) (by simp), h.cell (i := 2) (by simp), h.cell (i := 3) (by simp), h.cell (i := 4) (by simp), h.cell (i := 5) (by simp), h.cell (i := 6) (by simp), h.cell (i := 7) (by simp), h.cell (i := 8) (by simp), h.cell (i := 9) (by simp)⟩

theorem ten_free {t : TypeId} {w : World} {g : Nat} {xs : List Int} (h : ArrI t .i64 w g xs) : w.frozen? ⟨g, 0, none⟩ = false ∧ w.frozen? ⟨g, 1, none⟩ = false ∧ w.frozen? ⟨g, 2, none⟩ = false ∧ w.frozen? ⟨g, 3, none⟩ = false ∧ w.frozen? ⟨g, 4, none⟩ = false ∧ w.frozen? ⟨g, 5, none⟩ = false ∧ w.frozen? ⟨g, 6, none⟩ = false ∧ w.frozen? ⟨g, 7, none⟩ = false ∧ w.frozen? ⟨g, 8, none⟩ = false ∧ w.frozen? ⟨g, 9, none⟩ = false :=
  ⟨h.free 0, h.free 1, h.free 2, h.free 3, h.free 4, h.free 5, h.free 6, h.free 7, h.free 8, h.free 9⟩

theorem asker_info : (Try.prog.info? 57).map (·.size) = some 10 := by kernel_rfl

theorem ten_set {t : TypeId} {w : World} {g B : Nat} {xs : List Int} (hl : xs.length = 10) (h : ArrI t .i64 w g xs) (hB : B ≤ g) (w0 : World) (hb : Below B w0 w) (a0 a1 a2 a3 a4 a5 a6 a7 a8 st : Int) :
    ∃ W, W = ((((((((((w.setCell ⟨g, 0, none⟩ (.int .i64 a0)).setCell ⟨g, 1, none⟩ (.int .i64 a1)).setCell ⟨g, 2, none⟩ (.int .i64 a2)).setCell ⟨g, 3, none⟩ (.int .i64 a3)).setCell ⟨g, 4, none⟩ (.int .i64 a4)).setCell ⟨g, 5, none⟩ (.int .i64 a5)).setCell ⟨g, 6, none⟩ (.int .i64 a6)).setCell ⟨g, 7, none⟩ (.int .i64 a7)).setCell ⟨g, 8, none⟩ (.int .i64 a8)).setCell ⟨g, 9, none⟩ (.int .i64 st)) ∧ ArrI t .i64 W g [a0, a1, a2, a3, a4, a5, a6, a7, a8, st] ∧ Below B w0 W := by
  match xs, hl with
  | [x0, x1, x2, x3, x4, x5, x6, x7, x8, x9], _ =>
    refine ⟨_, rfl, ((((((((((h).set 0 a0).set 1 a1).set 2 a2).set 3 a3).set 4 a4).set 5 a5).set 6 a6).set 7 a7).set 8 a8).set 9 st, ?_⟩
    have e := Ex.setC (g := g) (w := w) [.int .i64 a0, .int .i64 a1, .int .i64 a2, .int .i64 a3, .int .i64 a4, .int .i64 a5, .int .i64 a6, .int .i64 a7, .int .i64 a8, .int .i64 st] 0 w (Ex.refl _ _)
    exact hb.trans (e.below hB h.lt)

set_option maxRecDepth 20000 in
set_option maxHeartbeats 2000000 in
theorem askerAt_ok (a0 a1 a2 a3 a4 a5 a6 a7 a8 st : Int) (w : World) (h1 : okW [a0, a1, a2, a3, a4, a5, a6, a7, a8] = true) (h2 : isSt st = true) :
    Calls Try.prog 47 #[.agg #[.int .i64 a0, .int .i64 a1, .int .i64 a2, .int .i64 a3, .int .i64 a4, .int .i64 a5, .int .i64 a6, .int .i64 a7, .int .i64 a8], .int .i64 st] w fun r w' => r = .returned (.tuple #[.agg #[.int .i64 a0, .int .i64 a1, .int .i64 a2, .int .i64 a3, .int .i64 a4, .int .i64 a5, .int .i64 a6, .int .i64 a7, .int .i64 a8, .int .i64 st], .int .i64 0]) ∧ Below w.heap.size w w' := by
  have hW := fun W => Way_any a0 a1 a2 a3 a4 a5 a6 a7 a8 W
  have hS := fun W => isSite_any st W
  rw [h1] at hW
  rw [h2] at hS
  unfold wayV at hW
  simp only [if_true] at hW
  clear h1 h2
  have hA := (nine_cells (t := 24) w a0 a1 a2 a3 a4 a5 a6 a7 a8).alloc (.cells #[.int .i64 0, .int .i64 0, .int .i64 0, .int .i64 0, .int .i64 0, .int .i64 0, .int .i64 0, .int .i64 0, .int .i64 0, .int .i64 0] 57)
  have hZ : ArrI 57 .i64 ((w.alloc (.cells #[.int .i64 a0, .int .i64 a1, .int .i64 a2, .int .i64 a3, .int .i64 a4, .int .i64 a5, .int .i64 a6, .int .i64 a7, .int .i64 a8] 24)).alloc (.cells #[.int .i64 0, .int .i64 0, .int .i64 0, .int .i64 0, .int .i64 0, .int .i64 0, .int .i64 0, .int .i64 0, .int .i64 0, .int .i64 0] 57)) (w.heap.size + 1) [0, 0, 0, 0, 0, 0, 0, 0, 0, 0] := new_at (by simp) (ArrI.new 57 .i64 (w.alloc (.cells #[.int .i64 a0, .int .i64 a1, .int .i64 a2, .int .i64 a3, .int .i64 a4, .int .i64 a5, .int .i64 a6, .int .i64 a7, .int .i64 a8] 24)) [0, 0, 0, 0, 0, 0, 0, 0, 0, 0])
  go_enter Try.func47, Try.ntmps47
  go_wp2_with fail
  refine (hW _).mono ?_
  rintro r w1 ⟨rfl, hb1⟩
  replace hA := hA.below hb1
  replace hZ := hZ.below hb1
  have hbb : Below w.heap.size w w1 := (((Below.refl _ _).alloc (Nat.le_refl _) _).alloc (by simp) _).trans (hb1.mono (by simp; omega))
  obtain ⟨c0, c1, c2, c3, c4, c5, c6, c7, c8⟩ := nine hA
  obtain ⟨f0, f1, f2, f3, f4, f5, f6, f7, f8, f9⟩ := ten_free hZ
  obtain ⟨z0, z1, z2, z3, z4, z5, z6, z7, z8, z9⟩ := ten hZ
  clear hA hb1
  go_wp2_with fail
  refine (hS _).mono ?_
  rintro r w2 ⟨rfl, hw2⟩
  subst hw2
  go_wp2_with fail
  obtain ⟨W, hW1, hY, hbW⟩ := ten_set rfl hZ (Nat.le_succ _) w hbb a0 a1 a2 a3 a4 a5 a6 a7 a8 st
  rw [← hW1]
  exact bodyPost_ret (results_row_tmp (p := 4) (u := 5) rfl _ _ (w.heap.size + 1) _ _ _ rfl hY Try.underlying57 rfl asker_info) rfl ⟨rfl, hbW⟩

set_option maxRecDepth 20000 in
set_option maxHeartbeats 2000000 in
theorem askerAt_no (a0 a1 a2 a3 a4 a5 a6 a7 a8 st : Int) (w : World) (h1 : ¬ (okW [a0, a1, a2, a3, a4, a5, a6, a7, a8] = true ∧ isSt st = true)) :
    Calls Try.prog 47 #[.agg #[.int .i64 a0, .int .i64 a1, .int .i64 a2, .int .i64 a3, .int .i64 a4, .int .i64 a5, .int .i64 a6, .int .i64 a7, .int .i64 a8], .int .i64 st] w fun r w' => r = .returned (.tuple #[.agg #[.int .i64 0, .int .i64 0, .int .i64 0, .int .i64 0, .int .i64 0, .int .i64 0, .int .i64 0, .int .i64 0, .int .i64 0, .int .i64 0], .int .i64 1]) ∧ Below w.heap.size w w' := by
  have hW := fun W => Way_any a0 a1 a2 a3 a4 a5 a6 a7 a8 W
  have hS := fun W => isSite_any st W
  unfold wayV at hW
  have hA := (nine_cells (t := 24) w a0 a1 a2 a3 a4 a5 a6 a7 a8).alloc (.cells #[.int .i64 0, .int .i64 0, .int .i64 0, .int .i64 0, .int .i64 0, .int .i64 0, .int .i64 0, .int .i64 0, .int .i64 0, .int .i64 0] 57)
  have hZ : ArrI 57 .i64 ((w.alloc (.cells #[.int .i64 a0, .int .i64 a1, .int .i64 a2, .int .i64 a3, .int .i64 a4, .int .i64 a5, .int .i64 a6, .int .i64 a7, .int .i64 a8] 24)).alloc (.cells #[.int .i64 0, .int .i64 0, .int .i64 0, .int .i64 0, .int .i64 0, .int .i64 0, .int .i64 0, .int .i64 0, .int .i64 0, .int .i64 0] 57)) (w.heap.size + 1) [0, 0, 0, 0, 0, 0, 0, 0, 0, 0] := new_at (by simp) (ArrI.new 57 .i64 (w.alloc (.cells #[.int .i64 a0, .int .i64 a1, .int .i64 a2, .int .i64 a3, .int .i64 a4, .int .i64 a5, .int .i64 a6, .int .i64 a7, .int .i64 a8] 24)) [0, 0, 0, 0, 0, 0, 0, 0, 0, 0])
  cases hk : okW [a0, a1, a2, a3, a4, a5, a6, a7, a8] with
  | false =>
    rw [hk] at hW
    simp only [Bool.false_eq_true, if_false] at hW
    clear h1 hk hS
    go_enter Try.func47, Try.ntmps47
    go_wp2_with fail
    refine (hW _).mono ?_
    rintro r w1 ⟨rfl, hb1⟩
    replace hA := hA.below hb1
    replace hZ := hZ.below hb1
    have hbb : Below w.heap.size w w1 := (((Below.refl _ _).alloc (Nat.le_refl _) _).alloc (by simp) _).trans (hb1.mono (by simp; omega))
    obtain ⟨c0, c1, c2, c3, c4, c5, c6, c7, c8⟩ := nine hA
    obtain ⟨f0, f1, f2, f3, f4, f5, f6, f7, f8, f9⟩ := ten_free hZ
    obtain ⟨z0, z1, z2, z3, z4, z5, z6, z7, z8, z9⟩ := ten hZ
    clear hA hb1
    go_wp2_with fail
    obtain ⟨W, hW1, hY, hbW⟩ := ten_set rfl hZ (Nat.le_succ _) w hbb 0 0 0 0 0 0 0 0 0 0
    rw [← hW1]
    exact bodyPost_ret (results_row_tmp (p := 4) (u := 5) rfl _ _ (w.heap.size + 1) _ _ _ rfl hY Try.underlying57 rfl asker_info) rfl ⟨rfl, hbW⟩
  | true =>
    have h2 : isSt st = false := by
      cases hs : isSt st with
      | false => rfl
      | true => exact absurd ⟨hk, hs⟩ h1
    rw [hk] at hW
    rw [h2] at hS
    simp only [if_true] at hW
    clear h1 h2 hk
    go_enter Try.func47, Try.ntmps47
    go_wp2_with fail
    refine (hW _).mono ?_
    rintro r w1 ⟨rfl, hb1⟩
    replace hA := hA.below hb1
    replace hZ := hZ.below hb1
    have hbb : Below w.heap.size w w1 := (((Below.refl _ _).alloc (Nat.le_refl _) _).alloc (by simp) _).trans (hb1.mono (by simp; omega))
    obtain ⟨c0, c1, c2, c3, c4, c5, c6, c7, c8⟩ := nine hA
    obtain ⟨f0, f1, f2, f3, f4, f5, f6, f7, f8, f9⟩ := ten_free hZ
    obtain ⟨z0, z1, z2, z3, z4, z5, z6, z7, z8, z9⟩ := ten hZ
    clear hA hb1
    go_wp2_with fail
    refine (hS _).mono ?_
    rintro r w2 ⟨rfl, hw2⟩
    subst hw2
    go_wp2_with fail
    obtain ⟨W, hW1, hY, hbW⟩ := ten_set rfl hZ (Nat.le_succ _) w hbb 0 0 0 0 0 0 0 0 0 0
    rw [← hW1]
    exact bodyPost_ret (results_row_tmp (p := 4) (u := 5) rfl _ _ (w.heap.size + 1) _ _ _ rfl hY Try.underlying57 rfl asker_info) rfl ⟨rfl, hbW⟩

end Go.Proofs.Ytdjeafaaclhpkaa.M
