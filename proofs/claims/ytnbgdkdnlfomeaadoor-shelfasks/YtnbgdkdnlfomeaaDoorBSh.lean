/-
  Own text: a shelf in plain words and in memory; contracts of its small questions.
-/
import Derived.Test.YtnbgdkdnlfomeaaDoorBSum
import Derived.Deep.QuietTactic
import Derived.Lib.QuietBelow
namespace Go.Proofs.YtnbgdkdnlfomeaaDoor.M
open Go.ChangeShapes Go.WideShapes Go.ChangeAt Go.RowKit Go.ChangeMaps Go.MapKept Go.Maps
set_option linter.unusedSimpArgs false

/-- A shelf. -/
structure Sh where
  low : Sm
  tail : List Rc
  com : Int

/-- The last index, and its epoch. -/
def endS (m : Sm) (l : List Rc) : Int × Int := match l.getLast? with
  | none => (m.ix, m.ep)
  | some x => (x.ix, x.ep)

/-- What keeps a shelf one. -/
structure Sh.inv (s : Sh) : Prop where
  ix0 : 0 ≤ s.low.ix
  ix1 : s.low.ix + s.tail.length ≤ 1099511627776
  lo : s.low.ix ≤ s.com
  hi : s.com ≤ s.low.ix + s.tail.length
  few : s.tail.length ≤ 24
  ixs : ∀ i, i < s.tail.length → (s.tail.getD i .z0).ix = s.low.ix + (i + 1 : Nat)
  ok : ∀ x ∈ s.tail, okR x
  vlo : ∀ c ∈ s.low.cs, 1 ≤ c.v ∧ c.v ≤ s.low.ix
  vti : ∀ x ∈ s.tail, 1 ≤ x.v ∧ x.v ≤ x.ix

/-- A shelf in block g, its map in block b. -/
structure ShB (w : World) (g b : Nat) (p : Option Addr) (n c : Nat) (s : Sh) : Prop where
  blk : At 87 w g #[.int .i64 s.low.ix, .int .i64 s.low.ep, .map (some b), .int .i64 (s.low.d 0).c, .int .i64 (s.low.d 0).q, .int .i64 (s.low.d 0).v, .int .i64 (s.low.d 1).c, .int .i64 (s.low.d 1).q, .int .i64 (s.low.d 1).v, .int .i64 (s.low.d 2).c, .int .i64 (s.low.d 2).q, .int .i64 (s.low.d 2).v, .int .i64 (s.low.d 3).c, .int .i64 (s.low.d 3).q, .int .i64 (s.low.d 3).v, .slice p n c, .int .i64 s.com]
  mp : MC w b s.low.cs
  tl : OwG recS 64 w 0 p n c s.tail
  inv : s.inv
  gt : ¬ mine p c g

theorem ShB.len {w : World} {g b : Nat} {p : Option Addr} {n c : Nat} {s : Sh} (h : ShB w g b p n c s) : s.tail.length = n := h.tl.len

theorem ShB.below {w w' : World} {g b : Nat} {p : Option Addr} {n c : Nat} {s : Sh} (h : ShB w g b p n c s) (hb : Below w.heap.size w w') : ShB w' g b p n c s :=
  ⟨At.below h.blk hb, h.mp.below hb, h.tl.below hb, h.inv, h.gt⟩

/-- The cells of a shelf. -/
theorem ShB.cells {w : World} {g b : Nat} {p : Option Addr} {n c : Nat} {s : Sh} (h : ShB w g b p n c s) : (w.cell? ⟨g, 0, none⟩ = some (.int .i64 s.low.ix) ∧ w.cell? ⟨g, 1, none⟩ = some (.int .i64 s.low.ep) ∧ w.cell? ⟨g, 2, none⟩ = some (.map (some b)) ∧ w.cell? ⟨g, 3, none⟩ = some (.int .i64 (s.low.d 0).c) ∧ w.cell? ⟨g, 4, none⟩ = some (.int .i64 (s.low.d 0).q) ∧ w.cell? ⟨g, 5, none⟩ = some (.int .i64 (s.low.d 0).v) ∧ w.cell? ⟨g, 6, none⟩ = some (.int .i64 (s.low.d 1).c) ∧ w.cell? ⟨g, 7, none⟩ = some (.int .i64 (s.low.d 1).q) ∧ w.cell? ⟨g, 8, none⟩ = some (.int .i64 (s.low.d 1).v) ∧ w.cell? ⟨g, 9, none⟩ = some (.int .i64 (s.low.d 2).c) ∧ w.cell? ⟨g, 10, none⟩ = some (.int .i64 (s.low.d 2).q) ∧ w.cell? ⟨g, 11, none⟩ = some (.int .i64 (s.low.d 2).v) ∧ w.cell? ⟨g, 12, none⟩ = some (.int .i64 (s.low.d 3).c) ∧ w.cell? ⟨g, 13, none⟩ = some (.int .i64 (s.low.d 3).q) ∧ w.cell? ⟨g, 14, none⟩ = some (.int .i64 (s.low.d 3).v)) ∧ w.cell? ⟨g, 15, none⟩ = some (.slice p n c) ∧ w.cell? ⟨g, 16, none⟩ = some (.int .i64 s.com) :=
  ⟨⟨At.cell h.blk 0, At.cell h.blk 1, At.cell h.blk 2, At.cell h.blk 3, At.cell h.blk 4, At.cell h.blk 5, At.cell h.blk 6, At.cell h.blk 7, At.cell h.blk 8, At.cell h.blk 9, At.cell h.blk 10, At.cell h.blk 11, At.cell h.blk 12, At.cell h.blk 13, At.cell h.blk 14⟩, At.cell h.blk 15, At.cell h.blk 16⟩

theorem run_neq_map {P : Program} (w : World) (t k e : TypeId) (p : Option Nat) (h : P.underlying t = some (.map k e)) :
    (binOp .neq t (.map p) (.map none)).run P w = .ok (.bool (!p.isNone)) w := by
  simp only [binOp]
  simp [show Op.equal t (.map p) (.map none) = Op.equalIn (9999 + 1) t (.map p) (.map none) from rfl, run_equalIn_map_nil_sl w 9999 t k e p h]

set_option maxRecDepth 20000 in
theorem made_yes {w : World} {g b : Nat} (h : w.cell? ⟨g, 2, none⟩ = some (.map (some b))) : Calls Tryd.prog 47 #[.pointer (some ⟨g, 0, none⟩)] w fun e w' => e = .returned (.bool true) ∧ w' = w := by
  have hq := fun w => run_neq_map (P := Tryd.prog) w 80 _ _ (some b) mapK
  go_enter Tryd.func47, Tryd.ntmps47
  go_wp2_with fail
  go_ret
  exact ⟨rfl, rfl⟩

set_option maxRecDepth 20000 in
theorem made_zero {w : World} {g : Nat} (h : w.cell? ⟨g, 2, none⟩ = some (.map none)) : Calls Tryd.prog 47 #[.pointer (some ⟨g, 0, none⟩)] w fun e w' => e = .returned (.bool false) ∧ w' = w := by
  have hq := fun w => run_neq_map (P := Tryd.prog) w 80 _ _ none mapK
  go_enter Tryd.func47, Tryd.ntmps47
  go_wp2_with fail
  go_ret
  exact ⟨rfl, rfl⟩

set_option maxRecDepth 20000 in
theorem made_nil (w : World) : Calls Tryd.prog 47 #[.pointer none] w fun e w' => e = .returned (.bool false) ∧ w' = w := by
  go_enter Tryd.func47, Tryd.ntmps47
  go_wp2_with fail
  go_ret
  exact ⟨rfl, rfl⟩

set_option maxRecDepth 20000 in
set_option maxHeartbeats 1000000 in
theorem end_any {w : World} {g : Nat} {m : Sm} (h0 : w.cell? ⟨g, 0, none⟩ = some (.int .i64 m.ix)) (h1 : w.cell? ⟨g, 1, none⟩ = some (.int .i64 m.ep)) {q : Option Addr} {k d : Nat} {l : List Rc} (hr : RdG recS w q k d l) (hk : k ≤ 1099511627776) :
    Calls Tryd.prog 51 #[.pointer (some ⟨g, 0, none⟩), .slice q k d] w fun e w' => e = .returned (.tuple #[.int .i64 (endS m l).1, .int .i64 (endS m l).2]) ∧ Below w.heap.size w w' := by
  have hl := hr.len
  by_cases hk0 : k = 0
  · subst hk0
    have : l = [] := List.length_eq_zero_iff.1 hl
    subst this
    show Calls Tryd.prog 51 _ w fun e w' => e = .returned (.tuple #[.int .i64 m.ix, .int .i64 m.ep]) ∧ Below w.heap.size w w'
    clear hr hl
    go_enter Tryd.func51, Tryd.ntmps51
    go_wp2_with fail
    have k0 := cell_regrown h0
    have k1 := cell_regrown h1
    refine wp_region_quiet_below (by kernel_rfl) (by kernel_rfl) ?_
    repeat (with_reducible refine wpQuiet_step (fun K hK => ?_); go_simp; first | (with_reducible refine hK _ ?_; clear hK K) | (rw [if_neg (by decide)]; with_reducible refine hK _ ?_; clear hK K))
    with_reducible refine wpQuiet_nil ?_
    intro _ hw'
    obtain ⟨⟨dq, osq⟩, hw''⟩ := hw'
    subst hw''
    have hb1 := below_regrown w dq osq
    go_wp2_with fail
    exact bodyPost_ret (v := .tuple #[.int .i64 m.ix, .int .i64 m.ep]) (by simp [results, Tryd.results51, go_sem]) rfl ⟨rfl, hb1⟩
  · have hkp : 0 < k := Nat.pos_of_ne_zero hk0
    obtain ⟨bb, o, rfl, hc⟩ := hr.rcs hkp
    obtain ⟨x0, x1, x2, x3, x4, x5, x6, x7, x8, x9, x10, x11, x12, x13⟩ := hc (k - 1) (by omega)
    have hE : Hid (endS m l = ((l.getD (k - 1) .z0).ix, (l.getD (k - 1) .z0).ep)) := by
      unfold Hid endS
      rw [List.getLast?_eq_getElem?, hl, List.getElem?_eq_getElem (by omega), List.getD_eq_getElem?_getD, List.getElem?_eq_getElem (by omega)]
      rfl
    have hkz : ((k : Int) == 0) = false := by simp; omega
    have hkd : decide ((k : Int) = 0) = false := by simp; omega
    obtain ⟨k1, rfl⟩ : ∃ k1, k = k1 + 1 := ⟨k - 1, by omega⟩
    rw [Nat.add_sub_cancel] at *
    have hk1 : ((k1 + 1 : Nat) : Int) - 1 = (k1 : Int) := by omega
    have hk2 : (k1 : Int) < ((k1 + 1 : Nat) : Int) := by omega
    generalize l.getD k1 .z0 = x at *
    obtain ⟨xi, xe, xk, xv, xs, xc, xq⟩ := x
    dsimp only at *
    have hba := below_alloc' w (.cells #[.int .i64 (Rc.mk xi xe xk xv xs xc xq).ix, .int .i64 (Rc.mk xi xe xk xv xs xc xq).ep, .int .u8 (bt (Rc.mk xi xe xk xv xs xc xq).k 0), .int .u8 (bt (Rc.mk xi xe xk xv xs xc xq).k 1), .int .u8 (bt (Rc.mk xi xe xk xv xs xc xq).k 2), .int .u8 (bt (Rc.mk xi xe xk xv xs xc xq).k 3), .int .u8 (bt (Rc.mk xi xe xk xv xs xc xq).k 4), .int .u8 (bt (Rc.mk xi xe xk xv xs xc xq).k 5), .int .u8 (bt (Rc.mk xi xe xk xv xs xc xq).k 6), .int .u8 (bt (Rc.mk xi xe xk xv xs xc xq).k 7), .int .i64 (Rc.mk xi xe xk xv xs xc xq).v, .string (Rc.mk xi xe xk xv xs xc xq).s, .int .i64 (Rc.mk xi xe xk xv xs xc xq).c, .int .i64 (Rc.mk xi xe xk xv xs xc xq).q] 64)
    obtain ⟨y0, y1, _⟩ := rec_box (x := Rc.mk xi xe xk xv xs xc xq) (At.new 64 w #[.int .i64 (Rc.mk xi xe xk xv xs xc xq).ix, .int .i64 (Rc.mk xi xe xk xv xs xc xq).ep, .int .u8 (bt (Rc.mk xi xe xk xv xs xc xq).k 0), .int .u8 (bt (Rc.mk xi xe xk xv xs xc xq).k 1), .int .u8 (bt (Rc.mk xi xe xk xv xs xc xq).k 2), .int .u8 (bt (Rc.mk xi xe xk xv xs xc xq).k 3), .int .u8 (bt (Rc.mk xi xe xk xv xs xc xq).k 4), .int .u8 (bt (Rc.mk xi xe xk xv xs xc xq).k 5), .int .u8 (bt (Rc.mk xi xe xk xv xs xc xq).k 6), .int .u8 (bt (Rc.mk xi xe xk xv xs xc xq).k 7), .int .i64 (Rc.mk xi xe xk xv xs xc xq).v, .string (Rc.mk xi xe xk xv xs xc xq).s, .int .i64 (Rc.mk xi xe xk xv xs xc xq).c, .int .i64 (Rc.mk xi xe xk xv xs xc xq).q])
    dsimp only at hba y0 y1
    rw [hE.out]
    clear hE hc hr hl h0 h1 hk0
    go_enter Tryd.func51, Tryd.ntmps51
    go_wp2_with fail
    clear x0 x1 x2 x3 x4 x5 x6 x7 x8 x9 x10 x11 x12 x13
    generalize hV : (w.alloc (.cells #[.int .i64 (Rc.mk xi xe xk xv xs xc xq).ix, .int .i64 (Rc.mk xi xe xk xv xs xc xq).ep, .int .u8 (bt (Rc.mk xi xe xk xv xs xc xq).k 0), .int .u8 (bt (Rc.mk xi xe xk xv xs xc xq).k 1), .int .u8 (bt (Rc.mk xi xe xk xv xs xc xq).k 2), .int .u8 (bt (Rc.mk xi xe xk xv xs xc xq).k 3), .int .u8 (bt (Rc.mk xi xe xk xv xs xc xq).k 4), .int .u8 (bt (Rc.mk xi xe xk xv xs xc xq).k 5), .int .u8 (bt (Rc.mk xi xe xk xv xs xc xq).k 6), .int .u8 (bt (Rc.mk xi xe xk xv xs xc xq).k 7), .int .i64 (Rc.mk xi xe xk xv xs xc xq).v, .string (Rc.mk xi xe xk xv xs xc xq).s, .int .i64 (Rc.mk xi xe xk xv xs xc xq).c, .int .i64 (Rc.mk xi xe xk xv xs xc xq).q] 64)) = V at *
    have z0 := cell_regrown y0
    have z1 := cell_regrown y1
    clear hV
    refine wp_region_quiet_below (by kernel_rfl) (by kernel_rfl) ?_
    repeat (with_reducible refine wpQuiet_step (fun K hK => ?_); go_simp; first | (with_reducible refine hK _ ?_; clear hK K) | (rw [if_neg (by decide)]; with_reducible refine hK _ ?_; clear hK K))
    with_reducible refine wpQuiet_nil ?_
    intro _ hw'
    obtain ⟨⟨dq, osq⟩, hw''⟩ := hw'
    subst hw''
    have hb1 := hba.trans ((below_regrown V dq osq).mono hba.size)
    go_wp2_with fail
    exact bodyPost_ret (v := .tuple #[.int .i64 xi, .int .i64 xe]) (by simp [results, Tryd.results51, go_sem]) rfl ⟨rfl, hb1⟩

end Go.Proofs.YtnbgdkdnlfomeaaDoor.M
