/-
  Own text: contracts of slices.Clone over numbers, of the fuse's clone, of Arm and of Clear.
-/
import Derived.Test.YtpjhadaiodnnaaaEMore
namespace Go.Proofs.Ytpjhadaiodnnaaa.M
open Go.ChangeShapes Go.WideShapes Go.ChangeAt Go.RowKit

theorem wp_enterX {P : Program} {op : Oper} {a : Act} {w : World} {K : Act → World → Prop} {Q : Exit → Act → World → Prop} (f : FuncId) (args : Array Value) (he : (execOp a.eval op).run P w = .ok (.enter f args) w) (R : Value → World → Prop) (hc : Calls P f args w fun e w' => ∃ v, e = .returned v ∧ R v w') (h : ∀ v w', R v w' → K (a.put op.dst v) w') : op.wp P a w K Q := by
  unfold Oper.wp
  rw [he]
  refine Calls.mono hc ?_
  rintro e w' ⟨v, rfl, hR⟩
  exact h v w' hR

theorem infoI : (Try.prog.info? 3).map (fun i => (i.zero, i.size, i.bytes)) = some (some (.int .i64 0), 1, 8) := by kernel_rfl

set_option maxRecDepth 20000 in
theorem iclone_any (p : Option Addr) (n c : Nat) (xs : List Int) (w : World) (hr : Rd .i64 w p n c xs) (hn : n ≤ 1099511627776) :
    Calls Try.prog 79 #[.slice p n c] w fun e w' => ∃ p' c', e = .returned (.slice p' n c') ∧ Rd .i64 w' p' n c' xs ∧ Below w.heap.size w w' ∧ (∀ x, p' = some x → w.heap.size ≤ x.block ∧ x.block < w'.heap.size) := by
  have q22 : ∀ (w : World) (a : Option Addr) (n c n' c' : Nat), (binOp .eql 43 (.slice a n c) (.slice none n' c')).run Try.prog w = .ok (.bool a.isNone) w := fun w a n c n' c' => Lib.run_eql_slice_nil w _ _ a n c n' c' Try.underlying43
  obtain ⟨i0, hi0, hz0, hz1, hz2⟩ := info_parts infoI
  cases p with
  | none =>
    have hn0 : n = 0 := by have := hr.cap; have := hr.nil rfl; omega
    subst hn0
    have hc0 := hr.nil rfl
    subst hc0
    go_enter Try.func79, Try.ntmps79
    go_wp2_with fail
    go_ret
    exact ⟨none, 0, rfl, hr, Below.refl _ _, fun x e => by cases e⟩
  | some ad =>
    have hba := (Below.refl w.heap.size w).alloc (Nat.le_refl _) (.cells #[] 3)
    have hra := hr.below' hba
    have ho : OwS .i64 3 (w.alloc (.cells #[] 3)) w.heap.size (some ⟨w.heap.size, 0, none⟩) 0 0 [] := World.ownsRow_made w #[] 0 (Nat.le_refl _) (Nat.zero_le _) rfl
    clear hr
    go_enter Try.func79, Try.ntmps79
    go_wp2_with (refine wpList_app2 _ rfl (.tmp 5) (.tmp 6) 43 rfl .i64 3 i0 (.int .i64 0) 8 Try.underlying43 hi0 hz0 hz1 hz2 rfl w.heap.size _ 0 0 [] rfl ho (some ad) n c xs rfl hra ?c1 ?c2 ?c3 ?_)
    case c1 => omega
    case c2 => unfold maxLen; omega
    case c3 => simp
    intro p' c' w' h1 hg
    have hch := hg.ch (fun k => w.heap.size ≤ k) (fun x e => by cases e; exact Nat.le_refl _)
    have hb2 : Below w.heap.size (w.alloc (.cells #[] 3)) w' := hch.below (by simp) (fun k e => e)
    clear hg hch
    go_wp2_with fail
    go_ret
    exact ⟨p', c', rfl, by simpa using h1.rd, hba.trans hb2, fun x e => h1.lt e⟩

theorem sizeFu : (Try.prog.info? 83).map (·.size) = some 2 := by kernel_rfl

theorem oneFu (n : Int) (p : Option Addr) (l c : Nat) : (#[.int .i64 n, .slice p l c] : Array Value).all (·.oneCell') = true := by simp [Value.oneCell']

theorem row_setRow (w : World) (r : Nat) (cs : Array Value) {old : Array Value} {t : TypeId} (h : w.heap[r]? = some (.cells old t (0, 0))) : (w.setRow r cs).heap[r]? = some (.cells cs t (0, 0)) := by
  unfold World.setRow
  rw [Array.getElem?_modify, if_pos rfl, h]
  rfl

theorem ch_setRow (w : World) (r : Nat) (cs : Array Value) : Ch (fun k => k = r) w (w.setRow r cs) := by
  refine ⟨rfl, rfl, rfl, by simp [World.setRow], fun k _ hk => ?_⟩
  unfold World.setRow
  rw [Array.getElem?_modify, if_neg (fun e => hk e.symm)]

theorem below_setRow2 (w : World) (r : Nat) (cs : Array Value) {B : Nat} (h : B ≤ r) : Below B w (w.setRow r cs) :=
  have hc := ch_setRow w r cs
  ⟨hc.os, hc.tape, hc.output, hc.size, fun k hk => by
    unfold World.setRow
    rw [Array.getElem?_modify, if_neg (by omega)]⟩

/-- While a fuse is cloned: from block b into block r. -/
def FSt (w : World) (b r : Nat) (n : Int) (q : Option Addr) (l c : Nat) (ks : List Int) (V : World) : Prop :=
  V.cell? ⟨b, 0, none⟩ = some (.int .i64 n) ∧ V.cell? ⟨b, 1, none⟩ = some (.slice q l c) ∧ Rd .i64 V q l c ks ∧ V.heap[r]? = some (.cells #[.int .i64 0, .slice none 0 0] 83 (0, 0)) ∧ w.heap.size ≤ r ∧ r < w.heap.size + 1 ∧ Below w.heap.size w V

theorem FSt.stays (w : World) (b r : Nat) (n : Int) (q : Option Addr) (l c : Nat) (ks : List Int) : Stays (FSt w b r n q l c ks) := fun _ _ h hb =>
  ⟨by rw [hb.cell (p := ⟨b, 0, none⟩) (World.block_lt_of_cell? _ _ h.1)]; exact h.1, by rw [hb.cell (p := ⟨b, 1, none⟩) (World.block_lt_of_cell? _ _ h.2.1)]; exact h.2.1, h.2.2.1.below' hb, by rw [hb.block r (Array.getElem?_eq_some_iff.1 h.2.2.2.1).1]; exact h.2.2.2.1, h.2.2.2.2.1, h.2.2.2.2.2.1, h.2.2.2.2.2.2.trans (hb.mono h.2.2.2.2.2.2.size)⟩

theorem FSR.stays (w : World) (b r : Nat) (n : Int) (q : Option Addr) (l c : Nat) (ks : List Int) (p' : Option Addr) (c' : Nat) : Stays (fun U => FSt w b r n q l c ks U ∧ Rd .i64 U p' l c' ks ∧ (∀ x, p' = some x → r < x.block ∧ x.block < U.heap.size)) := fun U U' h hb =>
  ⟨FSt.stays w b r n q l c ks U U' h.1 hb, h.2.1.below' hb, fun x e => ⟨(h.2.2 x e).1, Nat.lt_of_lt_of_le (h.2.2 x e).2 hb.size⟩⟩

/-- When it is cloned. -/
def FE (w : World) (r : Nat) (n : Int) (l : Nat) (ks : List Int) (p' : Option Addr) (c' : Nat) (V : World) : Prop :=
  V.heap[r]? = some (.cells #[.int .i64 n, .slice p' l c'] 83 (0, 0)) ∧ Rd .i64 V p' l c' ks ∧ Below w.heap.size w V ∧ (∀ x, p' = some x → w.heap.size ≤ x.block ∧ x.block < V.heap.size)

theorem FE.stays (w : World) (r : Nat) (n : Int) (l : Nat) (ks : List Int) (p' : Option Addr) (c' : Nat) : Stays (FE w r n l ks p' c') := fun _ _ h hb =>
  ⟨by rw [hb.block r (Array.getElem?_eq_some_iff.1 h.1).1]; exact h.1, h.2.1.below' hb, h.2.2.1.trans (hb.mono h.2.2.1.size), fun x e => ⟨(h.2.2.2 x e).1, Nat.lt_of_lt_of_le (h.2.2.2 x e).2 hb.size⟩⟩

set_option linter.unusedSimpArgs false in
set_option maxRecDepth 20000 in
theorem fclone_any (w : World) (b : Nat) (n : Int) (q : Option Addr) (l c : Nat) (ks : List Int) (h0 : w.cell? ⟨b, 0, none⟩ = some (.int .i64 n)) (h1 : w.cell? ⟨b, 1, none⟩ = some (.slice q l c)) (hr : Rd .i64 w q l c ks) (hl : l ≤ 1099511627776) :
    Calls Try.prog 52 #[.pointer (some ⟨b, 0, none⟩)] w fun e w' => ∃ p' c', e = .returned (.agg #[.int .i64 n, .slice p' l c']) ∧ Rd .i64 w' p' l c' ks ∧ Below w.heap.size w w' ∧ (∀ x, p' = some x → w.heap.size ≤ x.block ∧ x.block < w'.heap.size) := by
  have hb1 : Below w.heap.size w (w.alloc (.cells #[.int .i64 0, .slice none 0 0] 83)) := (Below.refl _ _).alloc (Nat.le_refl _) _
  obtain ⟨r, hrr⟩ : ∃ r, r = w.heap.size := ⟨_, rfl⟩
  have hS0 : FSt w b r n q l c ks (w.alloc (.cells #[.int .i64 0, .slice none 0 0] 83)).drew := FSt.stays w b r n q l c ks _ _ ⟨by rw [hb1.cell (p := ⟨b, 0, none⟩) (World.block_lt_of_cell? _ _ h0)]; exact h0, by rw [hb1.cell (p := ⟨b, 1, none⟩) (World.block_lt_of_cell? _ _ h1)]; exact h1, hr.below' hb1, by rw [hrr]; exact heap_alloc_new _ _, by omega, by omega, hb1⟩ (Below.refl _ _).drew
  have HR : Hid (r = w.heap.size) := hrr
  clear h0 h1 hr hb1
  go_enter Try.func52, Try.ntmps52
  go_wp2_with fail
  rw [← hrr]
  clear hrr
  refine wp_region_det [0, 1, 2, 3, 4, 5, 6, 7, 9] (FSt w b r n q l c ks) (FSt w b r n q l c ks) (by kernel_rfl) hS0 ?_
  refine wpDet_take ?vF0 (FSt.stays w b r n q l c ks) (fun _ h => h) (i := 0) rfl (by kernel_rfl) (by kernel_rfl) (by kernel_rfl) (by kernel_rfl) (fun _ _ _ h => h) (Gives.value (by rfl) ?yF0) ?rF0
  case yF0 => (intro w' hSw; (try dsimp only at hSw); go_simp; try with_reducible rfl)
  (try simp only [Act.put, List.getElem_toArray, List.getElem_cons_zero, List.getElem_cons_succ, List.setIfInBounds_toArray, List.set_cons_zero, List.set_cons_succ])
  refine wpDet_take ?vF1 (FSt.stays w b r n q l c ks) (fun _ h => h) (i := 1) rfl (by kernel_rfl) (by kernel_rfl) (by kernel_rfl) (by kernel_rfl) (fun _ _ _ h => h) (Gives.value (by rfl) ?yF1) ?rF1
  case yF1 => (intro w' hSw; (try dsimp only at hSw); go_simp; try with_reducible rfl)
  (try simp only [Act.put, List.getElem_toArray, List.getElem_cons_zero, List.getElem_cons_succ, List.setIfInBounds_toArray, List.set_cons_zero, List.set_cons_succ])
  refine wpDet_take ?vF2 (FSt.stays w b r n q l c ks) (fun _ h => h) (i := 2) rfl (by kernel_rfl) (by kernel_rfl) (by kernel_rfl) (by kernel_rfl) (fun _ _ _ h => h) (Gives.value (by rfl) ?yF2) ?rF2
  case yF2 => (intro w' hSw; (try dsimp only at hSw); go_simp; try with_reducible rfl)
  (try simp only [Act.put, List.getElem_toArray, List.getElem_cons_zero, List.getElem_cons_succ, List.setIfInBounds_toArray, List.set_cons_zero, List.set_cons_succ])
  refine wpDet_take ?vF3 (FSt.stays w b r n q l c ks) (fun _ h => h) (i := 3) rfl (by kernel_rfl) (by kernel_rfl) (by kernel_rfl) (by kernel_rfl) (fun _ _ _ h => h) (Gives.value (by rfl) ?yF3) ?rF3
  case yF3 => (intro w' hSw; have hq0 := hSw.1; (try dsimp only at hSw); go_simp; try with_reducible rfl)
  (try simp only [Act.put, List.getElem_toArray, List.getElem_cons_zero, List.getElem_cons_succ, List.setIfInBounds_toArray, List.set_cons_zero, List.set_cons_succ])
  refine wpDet_take ?vF4 (FSt.stays w b r n q l c ks) (fun _ h => h) (i := 4) rfl (by kernel_rfl) (by kernel_rfl) (by kernel_rfl) (by kernel_rfl) (fun _ _ _ h => h) (Gives.value (by rfl) ?yF4) ?rF4
  case yF4 => (intro w' hSw; (try dsimp only at hSw); go_simp; try with_reducible rfl)
  (try simp only [Act.put, List.getElem_toArray, List.getElem_cons_zero, List.getElem_cons_succ, List.setIfInBounds_toArray, List.set_cons_zero, List.set_cons_succ])
  refine wpDet_take ?vF5 (FSt.stays w b r n q l c ks) (fun _ h => h) (i := 5) rfl (by kernel_rfl) (by kernel_rfl) (by kernel_rfl) (by kernel_rfl) (fun _ _ _ h => h) (Gives.value (by rfl) ?yF5) ?rF5
  case yF5 => (intro w' hSw; (try dsimp only at hSw); go_simp; try with_reducible rfl)
  (try simp only [Act.put, List.getElem_toArray, List.getElem_cons_zero, List.getElem_cons_succ, List.setIfInBounds_toArray, List.set_cons_zero, List.set_cons_succ])
  refine wpDet_take ?vF6 (FSt.stays w b r n q l c ks) (fun _ h => h) (i := 6) rfl (by kernel_rfl) (by kernel_rfl) (by kernel_rfl) (by kernel_rfl) (fun _ _ _ h => h) (Gives.value (by rfl) ?yF6) ?rF6
  case yF6 => (intro w' hSw; (try dsimp only at hSw); go_simp; try with_reducible rfl)
  (try simp only [Act.put, List.getElem_toArray, List.getElem_cons_zero, List.getElem_cons_succ, List.setIfInBounds_toArray, List.set_cons_zero, List.set_cons_succ])
  refine wpDet_take ?vF7 (FSt.stays w b r n q l c ks) (fun _ h => h) (i := 7) rfl (by kernel_rfl) (by kernel_rfl) (by kernel_rfl) (by kernel_rfl) (fun _ _ _ h => h) (Gives.value (by rfl) ?yF7) ?rF7
  case yF7 => (intro w' hSw; have hq0 := hSw.2.1; (try dsimp only at hSw); go_simp; try with_reducible rfl)
  (try simp only [Act.put, List.getElem_toArray, List.getElem_cons_zero, List.getElem_cons_succ, List.setIfInBounds_toArray, List.set_cons_zero, List.set_cons_succ])
  refine wpDet_ready (rs := [8]) (by kernel_rfl) (by simp) (AllDet.cons rfl (fun V hV K hK => ?_) AllDet.nil)
  rw [if_pos (by rfl)]
  have hC := iclone_any q l c ks V hV.2.2.1 hl
  have hrV := (Array.getElem?_eq_some_iff.1 hV.2.2.2.1).1
  refine wp_enterX 79 #[.slice q l c] (by first | (go_simp; done) | (go_simp; rfl)) (fun v V' => ∃ p' c', v = .slice p' l c' ∧ Rd .i64 V' p' l c' ks ∧ Below V.heap.size V V' ∧ (∀ x, p' = some x → V.heap.size ≤ x.block ∧ x.block < V'.heap.size)) (hC.mono fun e V' ⟨p', c', h1, h2⟩ => ⟨_, h1, p', c', rfl, h2⟩) ?_
  rintro v V' ⟨p', c', rfl, h2, h3, h4⟩
  have hst := FSt.stays w b r n q l c ks V V' hV h3
  refine hK.out (fun U => FSt w b r n q l c ks U ∧ Rd .i64 U p' l c' ks ∧ (∀ x, p' = some x → r < x.block ∧ x.block < U.heap.size)) _ _ (fun U U' h hb => ⟨FSt.stays w b r n q l c ks U U' h.1 hb, h.2.1.below' hb, fun x e => ⟨(h.2.2 x e).1, Nat.lt_of_lt_of_le (h.2.2 x e).2 hb.size⟩⟩) (fun _ _ h => h.1) ⟨hst, h2, fun x e => ⟨Nat.lt_of_lt_of_le hrV (h4 x e).1, (h4 x e).2⟩⟩ ?_
  clear hK K hC hV h2 h3 h4 hst hrV
  (try simp only [Act.put, List.getElem_toArray, List.getElem_cons_zero, List.getElem_cons_succ, List.setIfInBounds_toArray, List.set_cons_zero, List.set_cons_succ])
  refine wpDet_take ?vF9 (FSR.stays w b r n q l c ks p' c') (fun _ h => h.1) (i := 9) rfl (by kernel_rfl) (by kernel_rfl) (by kernel_rfl) (by kernel_rfl) (fun _ _ _ h => h) (Gives.value (by rfl) ?yF9) ?rF9
  case yF9 => (intro w' hSw; (try dsimp only at hSw); go_simp; try with_reducible rfl)
  (try simp only [Act.put, List.getElem_toArray, List.getElem_cons_zero, List.getElem_cons_succ, List.setIfInBounds_toArray, List.set_cons_zero, List.set_cons_succ])
  refine wpDet_ready (rs := [10]) (by kernel_rfl) (by simp) (AllDet.cons rfl (fun V hV K hK => ?_) AllDet.nil)
  rw [if_pos (by rfl)]
  refine wp_store_row 83 _ _ rfl r #[.int .i64 n, .slice p' l c'] rfl rfl _ _ hV.1.2.2.2.1 sizeFu rfl (oneFu _ _ _ _) ?_
  have hb9 := hV.1.2.2.2.2.2.2.trans (below_setRow2 V r #[.int .i64 n, .slice p' l c'] hV.1.2.2.2.2.1)
  have hr9 := hV.2.1.ch (S := fun k => k = r) (ch_setRow V r #[.int .i64 n, .slice p' l c']) (fun x e e2 => absurd (hV.2.2 x e).1 (by rw [e2]; exact Nat.lt_irrefl _))
  refine hK.out (FE w r n l ks p' c') _ _ (FE.stays w r n l ks p' c') (no_lean (by kernel_rfl)) ⟨row_setRow V r _ hV.1.2.2.2.1, hr9, hb9, fun x e => ⟨Nat.le_trans hV.1.2.2.2.2.1 (Nat.le_of_lt (hV.2.2 x e).1), Nat.lt_of_lt_of_le (hV.2.2 x e).2 (ch_setRow V r _).size⟩⟩ ?_
  clear hK K hV hb9 hr9
  (try simp only [Act.put, List.getElem_toArray, List.getElem_cons_zero, List.getElem_cons_succ, List.setIfInBounds_toArray, List.set_cons_zero, List.set_cons_succ])
  refine wpDet_done (by kernel_rfl) (fun w8 hV => ?_) _
  obtain ⟨hrow, hrd, hbl, hfr⟩ := hV
  go_wp2_with fail
  exact bodyPost_ret (results_cell_row (p := 2) rfl _ _ r _ _ _ _ rfl hrow Try.underlying83 rfl sizeFu) rfl ⟨p', c', rfl, hrd, hbl, hfr⟩

end Go.Proofs.Ytpjhadaiodnnaaa.M
