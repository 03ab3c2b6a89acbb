/-
  Own text: bytes.Clone in memory of the call's own; the contract of follow.
-/
import Derived.Test.YtpjhadaiodnnaaaTSeal
namespace Go.Proofs.Ytpjhadaiodnnaaa.M
open Go.ChangeShapes Go.WideShapes Go.ChangeAt Go.RowKit
set_option linter.unusedSimpArgs false

set_option maxRecDepth 20000 in
theorem bcloneO (p : Option Addr) (n c : Nat) (xs : List Int) (w : World) (hr : Rd .u8 w p n c xs) (hn : n ≤ 1099511627776) :
    Calls Try.prog 61 #[.slice p n c] w fun e w' => ∃ p' c', e = .returned (.slice p' n c') ∧ Ow .u8 5 w' w.heap.size p' n c' xs ∧ Below w.heap.size w w' := by
  have q22 : ∀ (w : World) (a : Option Addr) (n c n' c' : Nat), (binOp .eql 22 (.slice a n c) (.slice none n' c')).run Try.prog w = .ok (.bool a.isNone) w := fun w a n c n' c' => Lib.run_eql_slice_nil w _ _ a n c n' c' Try.underlying22
  cases p with
  | none =>
    have hc := hr.nil rfl
    have hn0 : n = 0 := by have := hr.cap; omega
    subst hc hn0
    obtain rfl : xs = [] := List.length_eq_zero_iff.1 hr.len
    go_enter Try.func61, Try.ntmps61
    go_wp2
    go_ret
    exact ⟨none, 0, rfl, Ow.empty _ _ _ _ _, Below.refl _ _⟩
  | some a =>
    obtain ⟨i0, hi0, hz0, hz1, hz2⟩ := info_parts infoU8
    go_enter Try.func61, Try.ntmps61
    go_wp2_with (at_builtin; refine wpList_app _ rfl _ _ 22 rfl .u8 5 i0 (.int .u8 0) 1 Try.underlying22 hi0 hz0 hz1 hz2 rfl w.heap.size _ _ _ [] rfl (Ow.empty _ _ _ _ _) _ _ _ xs rfl (hr.below (below_alloc _ _)) ?d1 ?d2 ?d3 ?_)
    case d1 => omega
    case d2 => unfold maxLen; omega
    case d3 => simp
    intro p2 c2 w2 ho2 hb2
    have hb3 := ((below_alloc w (.cells #[] 5)).trans hb2)
    clear hb2
    go_wp2
    go_ret
    exact ⟨p2, c2, by simp, by simpa using ho2, hb3⟩

/-- Bytes of the call's own lie in no block of another type. -/
theorem Ow.exT {t : TypeId} {w w' : World} {B g n c : Nat} {p : Option Addr} {xs : List Int} {cs : Array Value} (h : Ow .u8 5 w B p n c xs) (hg : At t w g cs) (he : Ex g w w') (ht : t ≠ 5) : Ow .u8 5 w' B p n c xs := by
  refine ⟨h.len, ?_⟩
  rcases h.own with h1 | h1
  · exact Or.inl h1
  · refine Or.inr (ownsRow_ex h1 he fun e => ?_)
    rcases h1.2 with ⟨h2, _⟩ | ⟨g', cap, cur, hv, _, hh, _⟩
    · rw [h2] at e; cases e
    · rw [hv] at e
      cases e
      rw [show w.heap[g']? = _ from hg] at hh
      injection hh with hh
      injection hh with _ h3
      exact ht h3

theorem Slo.exT {t : TypeId} {w w' : World} {B g : Nat} {vs : List Value} {xss : List (List Int)} {cs : Array Value} (h : Slo 5 w B vs xss) (hg : At t w g cs) (he : Ex g w w') (ht : t ≠ 5) : Slo 5 w' B vs xss :=
  ⟨h.1, fun i hi => by obtain ⟨q, m, d, e, r⟩ := h.2 i hi; exact ⟨q, m, d, e, r.exT hg he ht⟩⟩

theorem OwV.exT {t e : TypeId} {w w' : World} {B g n c : Nat} {p : Option Addr} {vs : List Value} {cs : Array Value} (h : OwV e w B p n c vs) (hg : At t w g cs) (he : Ex g w w') (ht : t ≠ e) : OwV e w' B p n c vs := by
  refine ⟨h.len, ?_⟩
  rcases h.own with h1 | h1
  · exact Or.inl h1
  · refine Or.inr (ownsRow_ex h1 he fun e' => ?_)
    rcases h1.2 with ⟨h2, _⟩ | ⟨g', cap, cur, hv, _, hh, _⟩
    · rw [h2] at e'; cases e'
    · rw [hv] at e'
      cases e'
      rw [show w.heap[g']? = _ from hg] at hh
      injection hh with hh
      injection hh with _ h3
      exact ht h3

/-- A reel's value, all of it memory of the call's own. -/
def ReW (w : World) (B : Nat) (v : Value) (r : PR) : Prop := ∃ pb nb cb pr cr vs, v = .agg #[.int .i64 r.gen, .slice pb nb cb, .slice pr r.recs.length cr] ∧ Ow .u8 5 w B pb nb cb r.base ∧ OwV 22 w B pr r.recs.length cr vs ∧ Slo 5 w B vs r.recs

theorem info1 : (Try.prog.info? 22).map (fun i => (i.zero, i.size, i.bytes)) = some (some (.slice none 0 0), 1, 24) := by kernel_rfl

theorem wp_app {P : Program} {op : Oper} {a : Act} {w : World} {K : Act → World → Prop} {Q : Exit → Act → World → Prop} (s x : Operand) (t : TypeId) (hop : op.op = .call { callee := .builtin .append, args := #[s, x], argTypes := #[t, t] }) (u v : Value) (hs : a.eval s = u) (hx : a.eval x = v) (y : Value) (w' : World)
    (hrun : (Builtin.append_ #[t, t] op.type #[u, v]).run P w = .ok y w') (h : K (a.put op.dst y) w') : op.wp P a w K Q := by
  unfold Oper.wp
  simp [execOp, hop, resolve, invoke, builtin, hs, hx, hrun, Result.andThen]
  exact h

theorem sizeSlV : (Try.prog.info? 31).map (·.size) = some 1 := by kernel_rfl

theorem results_reel1 {fn : Func} {p : Tmp} (h : fn.results = #[.cell p 72]) (tmps : Array Value) (w : World) (g : Nat) (x y z : Value) (hp : tmps.getD p undef = .pointer (some ⟨g, 0, none⟩)) (hg : At 72 w g #[x, y, z]) :
    (results fn tmps).run Try.prog w = .ok (.agg #[x, y, z]) w := by
  have hp' : tmps[p]?.getD undef = .pointer (some ⟨g, 0, none⟩) := by simpa using hp
  have hl := run_loadVar_mid (P := Try.prog) w g 0 72 [x, y, z] _ (fun j v hj => by
    rw [Nat.zero_add]
    match j, hj with
    | 0, hj => cases hj; exact hg.cell 0
    | 1, hj => cases hj; exact hg.cell 1
    | 2, hj => cases hj; exact hg.cell 2) Try.underlying72 rfl sizeR
  simp [results, h, hp', asAddr, hl]

theorem take_snocV {l : List (List Int)} {k : Nat} (h : k < l.length) : l.take (k + 1) = l.take k ++ [l.getD k []] := by
  rw [List.take_add_one, List.getElem?_eq_getElem h, List.getD_eq_getElem?_getD, List.getElem?_eq_getElem h]
  rfl

theorem At.put2 {t : TypeId} {w : World} {g : Nat} {a b c : Value} (h : At t w g #[a, b, c]) (z : Value) : At t (w.setCell ⟨g, 2, none⟩ z) g #[a, b, z] := heap_setCell_same _ g 2 _ _ z h

/-- While the records are cloned. -/
structure FlI (w0 : World) (gn gq : Nat) (gen : Int) (p6 : Option Addr) (nb c6 : Nat) (base : List Int) (Bv : Nat) (pq : Option Addr) (kq cq : Nat) (p8 : Option Addr) (k8 c8 : Nat) (vq : List Value) (rs : List (List Int)) (W : World) : Prop where
  an : At 72 W gn #[.int .i64 (gen + 1), .slice p6 nb c6, .slice pq kq cq]
  aq : At 72 W gq #[.int .i64 0, .slice none 0 0, .slice none 0 0]
  ob : Ow .u8 5 W w0.heap.size p6 nb c6 base
  ov : OwV 22 W Bv p8 k8 c8 vq
  so : Slo 5 W Bv vq rs
  bl : Below w0.heap.size w0 W
  sz : Bv ≤ W.heap.size

theorem FlI.stays (w0 : World) (gn gq : Nat) (gen : Int) (p6 : Option Addr) (nb c6 : Nat) (base : List Int) (Bv : Nat) (pq : Option Addr) (kq cq : Nat) (p8 : Option Addr) (k8 c8 : Nat) (vq : List Value) (rs : List (List Int)) : Stays (FlI w0 gn gq gen p6 nb c6 base Bv pq kq cq p8 k8 c8 vq rs) := fun _ _ h hb =>
  ⟨h.an.below hb, h.aq.below hb, h.ob.below hb, h.ov.below hb, h.so.below hb, h.bl.trans (hb.mono h.bl.size), Nat.le_trans h.sz hb.size⟩

theorem FlI.put {w0 : World} {gn gq : Nat} {gen : Int} {p6 : Option Addr} {nb c6 : Nat} {base : List Int} {Bv : Nat} {pq : Option Addr} {kq cq : Nat} {p8 : Option Addr} {k8 c8 : Nat} {vq : List Value} {rs : List (List Int)} {V : World} (h : FlI w0 gn gq gen p6 nb c6 base Bv pq kq cq p8 k8 c8 vq rs V) (hE : Ex gn V (V.setCell ⟨gn, 2, none⟩ (.slice p8 k8 c8))) (hne : gn ≠ gq) (_hB : gn < Bv) (hw : w0.heap.size ≤ gn) :
    FlI w0 gn gq gen p6 nb c6 base Bv p8 k8 c8 p8 k8 c8 vq rs (V.setCell ⟨gn, 2, none⟩ (.slice p8 k8 c8)) :=
  ⟨h.an.put2 _, h.aq.ex hE (Ne.symm hne), h.ob.exT h.an hE (by decide), h.ov.exT h.an hE (by decide), h.so.exT h.an hE (by decide), h.bl.trans (hE.below hw h.an.lt), Nat.le_trans h.sz hE.size⟩

theorem OwV.lowerB {e : TypeId} {w : World} {B B' n c : Nat} {p : Option Addr} {vs : List Value} (h : OwV e w B p n c vs) (hB : B' ≤ B) : OwV e w B' p n c vs := ⟨h.len, h.own.imp id fun h => ownsRow_lower h hB⟩

set_option maxRecDepth 20000 in
set_option maxHeartbeats 8000000 in
theorem follow_any (w : World) (gt : Nat) (gen : Int) (hc3 : w.cell? ⟨gt, 3, none⟩ = some (.int .i64 gen)) (hgen : 0 ≤ gen ∧ gen < 1099511627776) (pb : Option Addr) (nb cb : Nat) (base : List Int) (hb0 : Rd .u8 w pb nb cb base) (hnb : nb ≤ 8192) (pr : Option Addr) (nr cr : Nat) (vs : List Value) (recs : List (List Int)) (hv0 : RdV w pr nr cr vs) (hs0 : Sls w vs recs) (hnr : nr = recs.length) (hfew : nr ≤ 1000000) (hrec : ∀ i, i < recs.length → (recs.getD i []).length ≤ 8192) :
    Calls Try.prog 56 #[.pointer (some ⟨gt, 3, none⟩), .slice pb nb cb, .slice pr nr cr] w fun e w' => (∃ v, e = .returned v ∧ ReW w' w.heap.size v ⟨gen + 1, base, recs⟩) ∧ Below w.heap.size w w' := by
  have HN : Hid (nr = recs.length) := hnr
  clear hnr
  have hbaw := below_alloc w (.cells #[.int .i64 0, .slice none 0 0, .slice none 0 0] 72)
  have hGq := At.new 72 w #[.int .i64 0, .slice none 0 0, .slice none 0 0]
  have hbr := hb0.below hbaw
  have hv := hv0.below hbaw
  have hs := hs0.below hbaw
  have hc3w := cell_below hbaw hc3
  obtain ⟨i1, hi1, hy0, hy1, hy2⟩ := info_parts info1
  have hsz0 : (w.alloc (.cells #[.int .i64 0, .slice none 0 0, .slice none 0 0] 72)).heap.size = w.heap.size + 1 := by simp
  obtain ⟨gq, hgq⟩ : ∃ z, z = w.heap.size := ⟨_, rfl⟩
  clear hb0 hv0 hs0
  go_enter Try.func56, Try.ntmps56
  go_wp2_with fail
  generalize (w.alloc (.cells #[.int .i64 0, .slice none 0 0, .slice none 0 0] 72)) = w0 at *
  rw [← hgq] at hGq hsz0 ⊢
  have HGQ : Hid (w0.heap.size = gq + 1) := hsz0
  have HGQ2 : Hid (gq = w.heap.size) := hgq
  clear hsz0 hgq
  have hS0w : ∀ W, Bl w0 W → W.cell? ⟨gt, 3, none⟩ = some (.int .i64 gen) := fun W h => cell_below (Bl.out' h) hc3w
  have hS0 : Bl w0 w0.drew := (Below.refl _ _).drew
  have hwrap : IntKind.i64.wrap (gen + 1) = gen + 1 := by rw [IntKind.wrap_i64]; omega
  refine wp_region_det [0, 1, 2, 3, 4, 5, 7] (fun W => W.cell? ⟨gt, 3, none⟩ = some (.int .i64 gen)) (Bl w0) (by kernel_rfl) hS0 ?_
  refine wpDet_take ?vA0 (Bl.stays w0) hS0w (i := 0) rfl (by kernel_rfl) (by kernel_rfl) (by kernel_rfl) (by kernel_rfl) (fun _ _ _ h => h) (Gives.value (by rfl) ?yA0) ?rA0
  case yA0 => (intro w' hSw; go_simp; try with_reducible rfl)
  (try simp only [Act.put, List.getElem_toArray, List.getElem_cons_zero, List.getElem_cons_succ, List.setIfInBounds_toArray, List.set_cons_zero, List.set_cons_succ])
  refine wpDet_take ?vA1 (Bl.stays w0) hS0w (i := 1) rfl (by kernel_rfl) (by kernel_rfl) (by kernel_rfl) (by kernel_rfl) (fun _ _ _ h => h) (Gives.value (by rfl) ?yA1) ?rA1
  case yA1 => (intro w' hSw; go_simp; try with_reducible rfl)
  (try simp only [Act.put, List.getElem_toArray, List.getElem_cons_zero, List.getElem_cons_succ, List.setIfInBounds_toArray, List.set_cons_zero, List.set_cons_succ])
  refine wpDet_take ?vA2 (Bl.stays w0) hS0w (i := 2) rfl (by kernel_rfl) (by kernel_rfl) (by kernel_rfl) (by kernel_rfl) (fun _ _ _ h => h) (Gives.value (by rfl) ?yA2) ?rA2
  case yA2 => (intro w' hSw; go_simp; try with_reducible rfl)
  (try simp only [Act.put, List.getElem_toArray, List.getElem_cons_zero, List.getElem_cons_succ, List.setIfInBounds_toArray, List.set_cons_zero, List.set_cons_succ])
  refine wpDet_take ?vA3 (Bl.stays w0) hS0w (i := 3) rfl (by kernel_rfl) (by kernel_rfl) (by kernel_rfl) (by kernel_rfl) (fun _ _ _ h => h) (Gives.value (by rfl) ?yA3) ?rA3
  case yA3 => (intro w' hSw; have hz0 := hSw; go_simp; try with_reducible rfl)
  (try simp only [Act.put, List.getElem_toArray, List.getElem_cons_zero, List.getElem_cons_succ, List.setIfInBounds_toArray, List.set_cons_zero, List.set_cons_succ])
  refine wpDet_take (.int .i64 (gen + 1)) (Bl.stays w0) hS0w (i := 4) rfl (by kernel_rfl) (by kernel_rfl) (by kernel_rfl) (by kernel_rfl) (fun _ _ _ h => h) (Gives.value (by rfl) ?yA4) ?rA4
  case yA4 => (intro w' hSw; go_simp; (try exact hwrap))
  (try simp only [Act.put, List.getElem_toArray, List.getElem_cons_zero, List.getElem_cons_succ, List.setIfInBounds_toArray, List.set_cons_zero, List.set_cons_succ])
  refine wpDet_take ?vA5 (Bl.stays w0) hS0w (i := 5) rfl (by kernel_rfl) (by kernel_rfl) (by kernel_rfl) (by kernel_rfl) (fun _ _ _ h => h) (Gives.value (by rfl) ?yA5) ?rA5
  case yA5 => (intro w' hSw; go_simp; try with_reducible rfl)
  (try simp only [Act.put, List.getElem_toArray, List.getElem_cons_zero, List.getElem_cons_succ, List.setIfInBounds_toArray, List.set_cons_zero, List.set_cons_succ])
  refine wpDet_ready (rs := [6, 8]) (by kernel_rfl) (by simp) (AllDet.cons rfl (fun V hV K hK => ?_) (AllDet.cons rfl (fun V hV K hK => ?_) AllDet.nil))
  · rw [if_pos (by rfl)]
    have hC := bcloneO pb nb cb base V (hbr.below (Bl.out' hV)) (by omega)
    refine wp_enterX 61 #[.slice pb nb cb] (by first | (go_simp; done) | (go_simp; rfl)) (fun v V' => ∃ p' c', v = .slice p' nb c' ∧ Ow .u8 5 V' V.heap.size p' nb c' base ∧ Below V.heap.size V V') (hC.mono fun e V' ⟨p', c', h1, h2, h3⟩ => ⟨_, h1, p', c', rfl, h2, h3⟩) ?_
    rintro v V' ⟨p6, c6, rfl, ho6, hb6⟩
    refine hK.out (fun W => Bl w0 W ∧ Ow .u8 5 W w0.heap.size p6 nb c6 base ∧ True) _ _ (fun W W' h hb => ⟨Bl.stays w0 W W' h.1 hb, h.2.1.below hb, h.2.2⟩) (fun _ W h => hS0w W h.1) ⟨Bl.stays w0 V V' hV hb6, ho6.lower (Bl.out' hV).size, trivial⟩ ?_
    clear hK K hC hV ho6 hb6
    (try simp only [Act.put, List.getElem_toArray, List.getElem_cons_zero, List.getElem_cons_succ, List.setIfInBounds_toArray, List.set_cons_zero, List.set_cons_succ])
    refine wpDet_take ?vT7 (fun W W' h hb => ⟨Bl.stays w0 W W' h.1 hb, h.2.1.below hb, h.2.2⟩) (fun W h => hS0w W h.1) (i := 7) rfl (by kernel_rfl) (by kernel_rfl) (by kernel_rfl) (by kernel_rfl) (fun _ _ _ h => h) (Gives.value (by rfl) ?yT7) ?rT7
    case yT7 => (intro w' hSw; go_simp; try with_reducible rfl)
    (try simp only [Act.put, List.getElem_toArray, List.getElem_cons_zero, List.getElem_cons_succ, List.setIfInBounds_toArray, List.set_cons_zero, List.set_cons_succ])
    refine wpDet_ready (rs := [8]) (by kernel_rfl) (by simp) (AllDet.cons rfl (fun V hV K hK => ?_) AllDet.nil)
    rw [if_pos (by rfl)]
    refine wp_value (.pointer (some ⟨V.heap.size, 0, none⟩)) (V.alloc (.cells #[.int .i64 0, .slice none 0 0, .slice none 0 0] 72)) (by first | (go_simp; done) | (go_simp; rfl)) ?_
    have hba := below_alloc V (.cells #[.int .i64 0, .slice none 0 0, .slice none 0 0] 72)
    have hA8 := At.new 72 V #[.int .i64 0, .slice none 0 0, .slice none 0 0]
    have hb5 := Bl.stays w0 V _ hV.1 hba
    have hgn : w0.heap.size ≤ V.heap.size := (Bl.out' hV.1).size
    obtain ⟨gn, hgne⟩ : ∃ z, z = V.heap.size := ⟨_, rfl⟩
    rw [← hgne] at hA8 hgn ⊢
    refine hK.out (fun W => Bl w0 W ∧ Ow .u8 5 W w0.heap.size p6 nb c6 base ∧ At 72 W gn #[.int .i64 0, .slice none 0 0, .slice none 0 0]) _ _ (fun W W' h hb => ⟨Bl.stays w0 W W' h.1 hb, h.2.1.below hb, h.2.2.below hb⟩) (fun _ W h => hS0w W h.1) ⟨hb5, hV.2.1.below hba, hA8⟩ ?_
    clear hK K hV hba hA8 hb5 hgne
    (try simp only [Act.put, List.getElem_toArray, List.getElem_cons_zero, List.getElem_cons_succ, List.setIfInBounds_toArray, List.set_cons_zero, List.set_cons_succ])
    refine wpDet_ready (rs := [9]) (by kernel_rfl) (by simp) (AllDet.cons rfl (fun V hV K hK => ?_) AllDet.nil)
    rw [if_pos (by rfl)]
    have hth : V.there gn 0 3 := fun j hj => by
      rw [Nat.zero_add]
      refine ⟨?_, hV.2.2.free j⟩
      match j, hj with
      | 0, _ => rw [hV.2.2.cell 0]; rfl
      | 1, _ => rw [hV.2.2.cell 1]; rfl
      | 2, _ => rw [hV.2.2.cell 2]; rfl
    refine wp_store_mid 72 _ _ rfl gn 0 #[.int .i64 (gen + 1), .slice p6 nb c6, .slice none 0 0] rfl rfl hth sizeR (by simp [Value.oneCell']) ?_
    have hA9 : At 72 (V.setCells gn 0 (#[.int .i64 (gen + 1), .slice p6 nb c6, .slice none 0 0] : Array Value).toList) gn #[.int .i64 (gen + 1), .slice p6 nb c6, .slice none 0 0] := At.put3 hV.2.2 _ _ _
    have hE9 : Ex gn V (V.setCells gn 0 (#[.int .i64 (gen + 1), .slice p6 nb c6, .slice none 0 0] : Array Value).toList) := (((Ex.refl gn V).setCell 0 _).setCell 1 _).setCell 2 _
    have hO9 := hV.2.1.exT hV.2.2 hE9 (by decide)
    have hb9 : Below w0.heap.size w0 (V.setCells gn 0 (#[.int .i64 (gen + 1), .slice p6 nb c6, .slice none 0 0] : Array Value).toList) := (Bl.out' hV.1).trans (hE9.below hgn hV.2.2.lt)
    refine hK.out (fun W => Bl w0 W ∧ Ow .u8 5 W w0.heap.size p6 nb c6 base ∧ At 72 W gn #[.int .i64 (gen + 1), .slice p6 nb c6, .slice none 0 0]) _ _ (fun W W' h hb => ⟨Bl.stays w0 W W' h.1 hb, h.2.1.below hb, h.2.2.below hb⟩) (no_lean (by kernel_rfl)) ⟨hb9, hO9, hA9⟩ ?_
    clear hK K hV hth hA9 hE9 hO9 hb9
    (try simp only [Act.put, List.getElem_toArray, List.getElem_cons_zero, List.getElem_cons_succ, List.setIfInBounds_toArray, List.set_cons_zero, List.set_cons_succ])
    refine wpDet_done (by kernel_rfl) (fun W1 hW1 => ?_) _
    obtain ⟨hbW1', hO1, hA1⟩ := hW1
    have hbW1 := Bl.out' hbW1'
    have hq1 := hGq.below hbW1
    have hgnq : gn ≠ gq := by have := HGQ.out; omega
    have hw0n : w0.heap.size ≤ gn := hgn
    obtain ⟨Bv, HBv⟩ : ∃ z, z = W1.heap.size := ⟨_, rfl⟩
    have hgnB : gn < Bv := by rw [HBv]; exact hA1.lt
    have hgqB : gq < Bv := by rw [HBv]; exact hq1.lt
    have hB0 : w0.heap.size ≤ Bv := by rw [HBv]; exact hbW1.size
    have hst : FlI w0 gn gq gen p6 nb c6 base Bv none 0 0 none 0 0 [] (recs.take 0) W1 := ⟨hA1, hq1, hO1, OwV.empty _ _ _ _, Slo.nil _ _ _, hbW1, by rw [HBv]; exact Nat.le_refl _⟩
    clear hO1 hA1 hbW1' HBv hq1
    go_wp2_with fail
    go_loopw [20] (fun ix wr => ∃ (k : Nat) (pq : Option Addr) (cq : Nat) (vq : List Value), k ≤ nr ∧ ix = .int .i64 k ∧ FlI w0 gn gq gen p6 nb c6 base Bv pq k cq pq k cq vq (recs.take k) wr) (fun ix _ => nr - (intOf ix).toNat)
    case atStart => exact ⟨0, none, 0, [], Nat.zero_le _, rfl, hst⟩
    case round =>
      clear hst
      obtain ⟨k, pq, cq, vq, hk, rfl, ⟨hAn, hAq, hOb, hOv, hSo, hbw, hBv⟩⟩ := hrel
      by_cases hkn : k < nr
      · have hki : (k : Int) < (nr : Int) := by omega
        have hww : Below w0.heap.size w0 wr := hbw
        have hvw := hv.below hww
        obtain ⟨bv, ov, hpe, hcv⟩ := hvw.cells (by omega)
        subst hpe
        have hck := hcv k hkn
        obtain ⟨q0, m0, e0, hq0, hr0⟩ := (hs.below hww).2 k (by rw [hv.len]; exact hkn)
        rw [hq0] at hck
        have hl0 := hrec k (by rw [← HN.out]; exact hkn)
        have hm0 : m0 ≤ 8192 := by rw [← hr0.len]; exact hl0
        have HTK : Hid (recs.take (k + 1) = recs.take k ++ [recs.getD k []]) := take_snocV (by rw [← HN.out]; exact hkn)
        generalize recs.getD k [] = y at *
        have hS5w : ∀ W, Bl wr W → W.cell? ⟨gn, 2, none⟩ = some (.slice pq k cq) := fun W h => (hAn.below (Bl.out' h)).cell 2
        have hS5 : Bl wr wr.drew := (Below.refl _ _).drew
        clear hcv
        go_wp2_with fail
        refine wp_region_det [0, 1, 2] (fun W => W.cell? ⟨gn, 2, none⟩ = some (.slice pq k cq)) (Bl wr) (by kernel_rfl) hS5 ?_
        refine wpDet_take ?vL0 (Bl.stays wr) hS5w (i := 0) rfl (by kernel_rfl) (by kernel_rfl) (by kernel_rfl) (by kernel_rfl) (fun _ _ _ h => h) (Gives.value (by rfl) ?yL0) ?rL0
        case yL0 => (intro w' hSw; go_simp; try with_reducible rfl)
        (try simp only [Act.put, List.getElem_toArray, List.getElem_cons_zero, List.getElem_cons_succ, List.setIfInBounds_toArray, List.set_cons_zero, List.set_cons_succ])
        refine wpDet_take ?vL1 (Bl.stays wr) hS5w (i := 1) rfl (by kernel_rfl) (by kernel_rfl) (by kernel_rfl) (by kernel_rfl) (fun _ _ _ h => h) (Gives.value (by rfl) ?yL1) ?rL1
        case yL1 => (intro w' hSw; have hz0 := hSw; go_simp; try with_reducible rfl)
        (try simp only [Act.put, List.getElem_toArray, List.getElem_cons_zero, List.getElem_cons_succ, List.setIfInBounds_toArray, List.set_cons_zero, List.set_cons_succ])
        refine wpDet_take ?vL2 (Bl.stays wr) hS5w (i := 2) rfl (by kernel_rfl) (by kernel_rfl) (by kernel_rfl) (by kernel_rfl) (fun _ _ _ h => h) (Gives.value (by rfl) ?yL2) ?rL2
        case yL2 => (intro w' hSw; go_simp; try with_reducible rfl)
        (try simp only [Act.put, List.getElem_toArray, List.getElem_cons_zero, List.getElem_cons_succ, List.setIfInBounds_toArray, List.set_cons_zero, List.set_cons_succ])
        refine wpDet_ready (rs := [3]) (by kernel_rfl) (by simp) (AllDet.cons rfl (fun V hV K hK => ?_) AllDet.nil)
        rw [if_pos (by rfl)]
        have hC := bcloneO q0 m0 e0 y V (hr0.below (Bl.out' hV)) (by omega)
        refine wp_enterX 61 #[.slice q0 m0 e0] (by first | (go_simp; done) | (go_simp; rfl)) (fun v V' => ∃ p' c', v = .slice p' m0 c' ∧ Ow .u8 5 V' V.heap.size p' m0 c' y ∧ Below V.heap.size V V') (hC.mono fun e V' ⟨p', c', h1, h2, h3⟩ => ⟨_, h1, p', c', rfl, h2, h3⟩) ?_
        rintro v V' ⟨p7, c7, rfl, ho7, hb7⟩
        refine hK.out (fun W => Bl wr W ∧ Ow .u8 5 W Bv p7 m0 c7 y) _ _ (fun W W' h hb => ⟨Bl.stays wr W W' h.1 hb, h.2.below hb⟩) (fun _ W h => hS5w W h.1) ⟨Bl.stays wr V V' hV hb7, ho7.lower (Nat.le_trans hBv (Bl.out' hV).size)⟩ ?_
        clear hK K hC hV ho7 hb7
        (try simp only [Act.put, List.getElem_toArray, List.getElem_cons_zero, List.getElem_cons_succ, List.setIfInBounds_toArray, List.set_cons_zero, List.set_cons_succ])
        refine wpDet_ready (rs := [4]) (by kernel_rfl) (by simp) (AllDet.cons rfl (fun V hV K hK => ?_) AllDet.nil)
        rw [if_pos (by rfl)]
        refine wp_value (.slice (some ⟨V.heap.size, 0, none⟩) 1 1) (V.alloc (.cells #[.slice p7 m0 c7] 22)) (by first | (go_simp; done) | (go_simp; rfl)) ?_
        have hba := below_alloc V (.cells #[.slice p7 m0 c7] 22)
        have hA8 := At.new 22 V #[.slice p7 m0 c7]
        obtain ⟨gs, hgs⟩ : ∃ z, z = V.heap.size := ⟨_, rfl⟩
        rw [← hgs] at hA8 ⊢
        refine hK.out (fun W => Bl wr W ∧ Ow .u8 5 W Bv p7 m0 c7 y ∧ W.cell? ⟨gs, 0, none⟩ = some (.slice p7 m0 c7)) _ _ (fun W W' h hb => ⟨Bl.stays wr W W' h.1 hb, h.2.1.below hb, cell_below hb h.2.2⟩) (fun _ W h => hS5w W h.1) ⟨Bl.stays wr V _ hV.1 hba, hV.2.below hba, hA8.cell 0⟩ ?_
        clear hK K hV hba hA8 hgs
        (try simp only [Act.put, List.getElem_toArray, List.getElem_cons_zero, List.getElem_cons_succ, List.setIfInBounds_toArray, List.set_cons_zero, List.set_cons_succ])
        refine wpDet_ready (rs := [5]) (by kernel_rfl) (by simp) (AllDet.cons rfl (fun V hV K hK => ?_) AllDet.nil)
        rw [if_pos (by rfl)]
        obtain ⟨p8, c8, V8, hrun, hO8, hb8, hk8⟩ := run_appV (P := Try.prog) (d := 1) V 31 31 22 i1 (.slice none 0 0) 24 Try.underlying31 hi1 hy0 hy1 hy2 rfl (hOv.below (Bl.out' hV.1)) hV.2.2 rfl (by omega) (by unfold maxLen; omega) (Nat.le_trans hBv (Bl.out' hV.1).size)
        refine wp_app _ _ 31 rfl (.slice pq k cq) (.slice (some ⟨gs, 0, none⟩) 1 1) rfl rfl (.slice p8 (k + 1) c8) V8 hrun ?_
        have hB8 : Bv ≤ V.heap.size := Nat.le_trans hBv (Bl.out' hV.1).size
        have hgnV := hAn.below (Bl.out' hV.1)
        have hA8n : At 72 V8 gn #[.int .i64 (gen + 1), .slice p6 nb c6, .slice pq k cq] := (hb8.block gn hgnB).trans hgnV
        have hA8q : At 72 V8 gq #[.int .i64 0, .slice none 0 0, .slice none 0 0] := (hb8.block gq hgqB).trans (hAq.below (Bl.out' hV.1))
        have hO8b := (hOb.below (Bl.out' hV.1)).keptT hk8 (by decide)
        have hS8 := ((hSo.below (Bl.out' hV.1)).kept hk8 (by decide)).snoc (hV.2.1.keptT hk8 (by decide))
        have hb8w : Below w0.heap.size w0 V8 := (hbw.trans ((Bl.out' hV.1).mono hbw.size)).trans (hb8.mono hB0)
        have hB8' : Bv ≤ V8.heap.size := Nat.le_trans hB8 hb8.size
        refine hK.out (FlI w0 gn gq gen p6 nb c6 base Bv pq k cq p8 (k + 1) c8 (vq ++ [.slice p7 m0 c7]) (recs.take k ++ [y])) _ _ (FlI.stays _ _ _ _ _ _ _ _ _ _ _ _ _ _ _ _ _) (fun _ W h => h.an.cell 2) ⟨hA8n, hA8q, hO8b, hO8, hS8, hb8w, hB8'⟩ ?_
        clear hK K hV hrun hO8 hb8 hk8 hgnV hA8n hA8q hO8b hS8 hb8w hB8 hB8'
        (try simp only [Act.put, List.getElem_toArray, List.getElem_cons_zero, List.getElem_cons_succ, List.setIfInBounds_toArray, List.set_cons_zero, List.set_cons_succ])
        refine wpDet_ready (rs := [6]) (by kernel_rfl) (by simp) (AllDet.cons rfl (fun V hV K hK => ?_) AllDet.nil)
        rw [if_pos (by rfl)]
        refine wp_value (.pointer (some ⟨gn, 2, none⟩)) V (by first | (go_simp; done) | (go_simp; rfl)) ?_
        refine hK.out (FlI w0 gn gq gen p6 nb c6 base Bv pq k cq p8 (k + 1) c8 (vq ++ [.slice p7 m0 c7]) (recs.take k ++ [y])) _ _ (FlI.stays _ _ _ _ _ _ _ _ _ _ _ _ _ _ _ _ _) (fun _ W h => h.an.cell 2) hV ?_
        clear hK K hV
        (try simp only [Act.put, List.getElem_toArray, List.getElem_cons_zero, List.getElem_cons_succ, List.setIfInBounds_toArray, List.set_cons_zero, List.set_cons_succ])
        refine wpDet_ready (rs := [7]) (by kernel_rfl) (by simp) (AllDet.cons rfl (fun V hV K hK => ?_) AllDet.nil)
        rw [if_pos (by rfl)]
        refine wp_store_slice _ _ _ rfl gn 2 p8 (k + 1) c8 _ rfl rfl sizeSlV (hV.an.cell 2) (hV.an.free 2) ?_
        have hE : Ex gn V (V.setCell ⟨gn, 2, none⟩ (.slice p8 (k + 1) c8)) := (Ex.refl gn V).setCell 2 _
        have hz := hV.put hE hgnq hgnB hw0n
        refine hK.out (FlI w0 gn gq gen p6 nb c6 base Bv p8 (k + 1) c8 p8 (k + 1) c8 (vq ++ [.slice p7 m0 c7]) (recs.take k ++ [y])) _ _ (FlI.stays _ _ _ _ _ _ _ _ _ _ _ _ _ _ _ _ _) (no_lean (by kernel_rfl)) hz ?_
        clear hK K hV hE hz
        (try simp only [Act.put, List.getElem_toArray, List.getElem_cons_zero, List.getElem_cons_succ, List.setIfInBounds_toArray, List.set_cons_zero, List.set_cons_succ])
        refine wpDet_done (by kernel_rfl) (fun W6 hW6 => ?_) _
        obtain ⟨hAn6, hAq6, hOb6, hOv6, hSo6, hbw6, hBv6⟩ := hW6
        clear hAn hAq hOb hOv hSo hbw hBv hS5 hS5w hck hvw hww
        go_wp2_with fail
        go_roundw
        case rel => exact ⟨k + 1, p8, c8, vq ++ [.slice p7 m0 c7], by omega, by go_num, ⟨hAn6, hAq6, hOb6, hOv6, by rw [HTK.out]; exact hSo6, hbw6, hBv6⟩⟩
        case measure => simp [intOf]; omega
      · have hki : ¬ (k : Int) < (nr : Int) := by omega
        have et : recs.take k = recs := List.take_of_length_le (by rw [← HN.out]; omega)
        have Hkk : Hid (k = recs.length) := by show _ = _; rw [← HN.out]; omega
        rw [et] at hSo
        obtain ⟨x0, x1, x2⟩ := hAn.three
        obtain ⟨z0, z1, z2⟩ := hAq.three
        have f0 := hAq.free 0
        have f1 := hAq.free 1
        have f2 := hAq.free 2
        have hGz := At.put3 hAq (.int .i64 (gen + 1)) (.slice p6 nb c6) (.slice pq k cq)
        have hEz : Ex gq wr (((wr.setCell ⟨gq, 0, none⟩ (.int .i64 (gen + 1))).setCell ⟨gq, 1, none⟩ (.slice p6 nb c6)).setCell ⟨gq, 2, none⟩ (.slice pq k cq)) := (((Ex.refl gq wr).setCell 0 _).setCell 1 _).setCell 2 _
        have hObz := hOb.exT hAq hEz (by decide)
        have hOvz := hOv.exT hAq hEz (by decide)
        have hSoz := hSo.exT hAq hEz (by decide)
        have hbz : Below w.heap.size w (((wr.setCell ⟨gq, 0, none⟩ (.int .i64 (gen + 1))).setCell ⟨gq, 1, none⟩ (.slice p6 nb c6)).setCell ⟨gq, 2, none⟩ (.slice pq k cq)) := (hbaw.trans (hbw.mono hbaw.size)).trans (hEz.below (by rw [HGQ2.out]; exact Nat.le_refl _) hAq.lt)
        clear hAn hAq hOb hOv hSo hEz
        go_wp2_with fail
        refine bodyPost_ret (results_reel1 (p := 6) rfl _ _ gq _ _ _ rfl hGz) rfl ⟨⟨_, rfl, p6, nb, c6, pq, cq, vq, ?_, hObz.lower hbaw.size, ?_, hSoz.lower ?_⟩, hbz⟩
        · show Value.agg #[_, _, _] = Value.agg #[_, _, _]
          rw [Hkk.out]
        · show OwV _ _ _ _ recs.length _ _
          rw [← Hkk.out]
          exact hOvz.lowerB (Nat.le_trans hbaw.size hB0)
        · exact Nat.le_trans hbaw.size hB0
  · rw [if_pos (by rfl)]
    refine wp_value (.pointer (some ⟨V.heap.size, 0, none⟩)) (V.alloc (.cells #[.int .i64 0, .slice none 0 0, .slice none 0 0] 72)) (by first | (go_simp; done) | (go_simp; rfl)) ?_
    have hba := below_alloc V (.cells #[.int .i64 0, .slice none 0 0, .slice none 0 0] 72)
    have hA8 := At.new 72 V #[.int .i64 0, .slice none 0 0, .slice none 0 0]
    have hb5 := Bl.stays w0 V _ hV hba
    have hgn : w0.heap.size ≤ V.heap.size := (Bl.out' hV).size
    obtain ⟨gn, hgne⟩ : ∃ z, z = V.heap.size := ⟨_, rfl⟩
    rw [← hgne] at hA8 hgn ⊢
    refine hK.out (fun W => Bl w0 W ∧ True ∧ At 72 W gn #[.int .i64 0, .slice none 0 0, .slice none 0 0]) _ _ (fun W W' h hb => ⟨Bl.stays w0 W W' h.1 hb, h.2.1, h.2.2.below hb⟩) (fun _ W h => hS0w W h.1) ⟨hb5, trivial, hA8⟩ ?_
    clear hK K hV hba hA8 hb5 hgne
    (try simp only [Act.put, List.getElem_toArray, List.getElem_cons_zero, List.getElem_cons_succ, List.setIfInBounds_toArray, List.set_cons_zero, List.set_cons_succ])
    refine wpDet_ready (rs := [6]) (by kernel_rfl) (by simp) (AllDet.cons rfl (fun V hV K hK => ?_) AllDet.nil)
    rw [if_pos (by rfl)]
    have hC := bcloneO pb nb cb base V (hbr.below (Bl.out' hV.1)) (by omega)
    refine wp_enterX 61 #[.slice pb nb cb] (by first | (go_simp; done) | (go_simp; rfl)) (fun v V' => ∃ p' c', v = .slice p' nb c' ∧ Ow .u8 5 V' V.heap.size p' nb c' base ∧ Below V.heap.size V V') (hC.mono fun e V' ⟨p', c', h1, h2, h3⟩ => ⟨_, h1, p', c', rfl, h2, h3⟩) ?_
    rintro v V' ⟨p6, c6, rfl, ho6, hb6⟩
    refine hK.out (fun W => Bl w0 W ∧ Ow .u8 5 W w0.heap.size p6 nb c6 base ∧ At 72 W gn #[.int .i64 0, .slice none 0 0, .slice none 0 0]) _ _ (fun W W' h hb => ⟨Bl.stays w0 W W' h.1 hb, h.2.1.below hb, h.2.2.below hb⟩) (fun _ W h => hS0w W h.1) ⟨Bl.stays w0 V V' hV.1 hb6, ho6.lower (Bl.out' hV.1).size, hV.2.2.below hb6⟩ ?_
    clear hK K hC hV ho6 hb6
    (try simp only [Act.put, List.getElem_toArray, List.getElem_cons_zero, List.getElem_cons_succ, List.setIfInBounds_toArray, List.set_cons_zero, List.set_cons_succ])
    refine wpDet_take ?vU7 (fun W W' h hb => ⟨Bl.stays w0 W W' h.1 hb, h.2.1.below hb, h.2.2.below hb⟩) (fun W h => hS0w W h.1) (i := 7) rfl (by kernel_rfl) (by kernel_rfl) (by kernel_rfl) (by kernel_rfl) (fun _ _ _ h => h) (Gives.value (by rfl) ?yU7) ?rU7
    case yU7 => (intro w' hSw; go_simp; try with_reducible rfl)
    (try simp only [Act.put, List.getElem_toArray, List.getElem_cons_zero, List.getElem_cons_succ, List.setIfInBounds_toArray, List.set_cons_zero, List.set_cons_succ])
    refine wpDet_ready (rs := [9]) (by kernel_rfl) (by simp) (AllDet.cons rfl (fun V hV K hK => ?_) AllDet.nil)
    rw [if_pos (by rfl)]
    have hth : V.there gn 0 3 := fun j hj => by
      rw [Nat.zero_add]
      refine ⟨?_, hV.2.2.free j⟩
      match j, hj with
      | 0, _ => rw [hV.2.2.cell 0]; rfl
      | 1, _ => rw [hV.2.2.cell 1]; rfl
      | 2, _ => rw [hV.2.2.cell 2]; rfl
    refine wp_store_mid 72 _ _ rfl gn 0 #[.int .i64 (gen + 1), .slice p6 nb c6, .slice none 0 0] rfl rfl hth sizeR (by simp [Value.oneCell']) ?_
    have hA9 : At 72 (V.setCells gn 0 (#[.int .i64 (gen + 1), .slice p6 nb c6, .slice none 0 0] : Array Value).toList) gn #[.int .i64 (gen + 1), .slice p6 nb c6, .slice none 0 0] := At.put3 hV.2.2 _ _ _
    have hE9 : Ex gn V (V.setCells gn 0 (#[.int .i64 (gen + 1), .slice p6 nb c6, .slice none 0 0] : Array Value).toList) := (((Ex.refl gn V).setCell 0 _).setCell 1 _).setCell 2 _
    have hO9 := hV.2.1.exT hV.2.2 hE9 (by decide)
    have hb9 : Below w0.heap.size w0 (V.setCells gn 0 (#[.int .i64 (gen + 1), .slice p6 nb c6, .slice none 0 0] : Array Value).toList) := (Bl.out' hV.1).trans (hE9.below hgn hV.2.2.lt)
    refine hK.out (fun W => Bl w0 W ∧ Ow .u8 5 W w0.heap.size p6 nb c6 base ∧ At 72 W gn #[.int .i64 (gen + 1), .slice p6 nb c6, .slice none 0 0]) _ _ (fun W W' h hb => ⟨Bl.stays w0 W W' h.1 hb, h.2.1.below hb, h.2.2.below hb⟩) (no_lean (by kernel_rfl)) ⟨hb9, hO9, hA9⟩ ?_
    clear hK K hV hth hA9 hE9 hO9 hb9
    (try simp only [Act.put, List.getElem_toArray, List.getElem_cons_zero, List.getElem_cons_succ, List.setIfInBounds_toArray, List.set_cons_zero, List.set_cons_succ])
    refine wpDet_done (by kernel_rfl) (fun W1 hW1 => ?_) _
    obtain ⟨hbW1', hO1, hA1⟩ := hW1
    have hbW1 := Bl.out' hbW1'
    have hq1 := hGq.below hbW1
    have hgnq : gn ≠ gq := by have := HGQ.out; omega
    have hw0n : w0.heap.size ≤ gn := hgn
    obtain ⟨Bv, HBv⟩ : ∃ z, z = W1.heap.size := ⟨_, rfl⟩
    have hgnB : gn < Bv := by rw [HBv]; exact hA1.lt
    have hgqB : gq < Bv := by rw [HBv]; exact hq1.lt
    have hB0 : w0.heap.size ≤ Bv := by rw [HBv]; exact hbW1.size
    have hst : FlI w0 gn gq gen p6 nb c6 base Bv none 0 0 none 0 0 [] (recs.take 0) W1 := ⟨hA1, hq1, hO1, OwV.empty _ _ _ _, Slo.nil _ _ _, hbW1, by rw [HBv]; exact Nat.le_refl _⟩
    clear hO1 hA1 hbW1' HBv hq1
    go_wp2_with fail
    go_loopw [20] (fun ix wr => ∃ (k : Nat) (pq : Option Addr) (cq : Nat) (vq : List Value), k ≤ nr ∧ ix = .int .i64 k ∧ FlI w0 gn gq gen p6 nb c6 base Bv pq k cq pq k cq vq (recs.take k) wr) (fun ix _ => nr - (intOf ix).toNat)
    case atStart => exact ⟨0, none, 0, [], Nat.zero_le _, rfl, hst⟩
    case round =>
      clear hst
      obtain ⟨k, pq, cq, vq, hk, rfl, ⟨hAn, hAq, hOb, hOv, hSo, hbw, hBv⟩⟩ := hrel
      by_cases hkn : k < nr
      · have hki : (k : Int) < (nr : Int) := by omega
        have hww : Below w0.heap.size w0 wr := hbw
        have hvw := hv.below hww
        obtain ⟨bv, ov, hpe, hcv⟩ := hvw.cells (by omega)
        subst hpe
        have hck := hcv k hkn
        obtain ⟨q0, m0, e0, hq0, hr0⟩ := (hs.below hww).2 k (by rw [hv.len]; exact hkn)
        rw [hq0] at hck
        have hl0 := hrec k (by rw [← HN.out]; exact hkn)
        have hm0 : m0 ≤ 8192 := by rw [← hr0.len]; exact hl0
        have HTK : Hid (recs.take (k + 1) = recs.take k ++ [recs.getD k []]) := take_snocV (by rw [← HN.out]; exact hkn)
        generalize recs.getD k [] = y at *
        have hS5w : ∀ W, Bl wr W → W.cell? ⟨gn, 2, none⟩ = some (.slice pq k cq) := fun W h => (hAn.below (Bl.out' h)).cell 2
        have hS5 : Bl wr wr.drew := (Below.refl _ _).drew
        clear hcv
        go_wp2_with fail
        refine wp_region_det [0, 1, 2] (fun W => W.cell? ⟨gn, 2, none⟩ = some (.slice pq k cq)) (Bl wr) (by kernel_rfl) hS5 ?_
        refine wpDet_take ?vM0 (Bl.stays wr) hS5w (i := 0) rfl (by kernel_rfl) (by kernel_rfl) (by kernel_rfl) (by kernel_rfl) (fun _ _ _ h => h) (Gives.value (by rfl) ?yM0) ?rM0
        case yM0 => (intro w' hSw; go_simp; try with_reducible rfl)
        (try simp only [Act.put, List.getElem_toArray, List.getElem_cons_zero, List.getElem_cons_succ, List.setIfInBounds_toArray, List.set_cons_zero, List.set_cons_succ])
        refine wpDet_take ?vM1 (Bl.stays wr) hS5w (i := 1) rfl (by kernel_rfl) (by kernel_rfl) (by kernel_rfl) (by kernel_rfl) (fun _ _ _ h => h) (Gives.value (by rfl) ?yM1) ?rM1
        case yM1 => (intro w' hSw; have hz0 := hSw; go_simp; try with_reducible rfl)
        (try simp only [Act.put, List.getElem_toArray, List.getElem_cons_zero, List.getElem_cons_succ, List.setIfInBounds_toArray, List.set_cons_zero, List.set_cons_succ])
        refine wpDet_take ?vM2 (Bl.stays wr) hS5w (i := 2) rfl (by kernel_rfl) (by kernel_rfl) (by kernel_rfl) (by kernel_rfl) (fun _ _ _ h => h) (Gives.value (by rfl) ?yM2) ?rM2
        case yM2 => (intro w' hSw; go_simp; try with_reducible rfl)
        (try simp only [Act.put, List.getElem_toArray, List.getElem_cons_zero, List.getElem_cons_succ, List.setIfInBounds_toArray, List.set_cons_zero, List.set_cons_succ])
        refine wpDet_ready (rs := [3]) (by kernel_rfl) (by simp) (AllDet.cons rfl (fun V hV K hK => ?_) AllDet.nil)
        rw [if_pos (by rfl)]
        have hC := bcloneO q0 m0 e0 y V (hr0.below (Bl.out' hV)) (by omega)
        refine wp_enterX 61 #[.slice q0 m0 e0] (by first | (go_simp; done) | (go_simp; rfl)) (fun v V' => ∃ p' c', v = .slice p' m0 c' ∧ Ow .u8 5 V' V.heap.size p' m0 c' y ∧ Below V.heap.size V V') (hC.mono fun e V' ⟨p', c', h1, h2, h3⟩ => ⟨_, h1, p', c', rfl, h2, h3⟩) ?_
        rintro v V' ⟨p7, c7, rfl, ho7, hb7⟩
        refine hK.out (fun W => Bl wr W ∧ Ow .u8 5 W Bv p7 m0 c7 y) _ _ (fun W W' h hb => ⟨Bl.stays wr W W' h.1 hb, h.2.below hb⟩) (fun _ W h => hS5w W h.1) ⟨Bl.stays wr V V' hV hb7, ho7.lower (Nat.le_trans hBv (Bl.out' hV).size)⟩ ?_
        clear hK K hC hV ho7 hb7
        (try simp only [Act.put, List.getElem_toArray, List.getElem_cons_zero, List.getElem_cons_succ, List.setIfInBounds_toArray, List.set_cons_zero, List.set_cons_succ])
        refine wpDet_ready (rs := [4]) (by kernel_rfl) (by simp) (AllDet.cons rfl (fun V hV K hK => ?_) AllDet.nil)
        rw [if_pos (by rfl)]
        refine wp_value (.slice (some ⟨V.heap.size, 0, none⟩) 1 1) (V.alloc (.cells #[.slice p7 m0 c7] 22)) (by first | (go_simp; done) | (go_simp; rfl)) ?_
        have hba := below_alloc V (.cells #[.slice p7 m0 c7] 22)
        have hA8 := At.new 22 V #[.slice p7 m0 c7]
        obtain ⟨gs, hgs⟩ : ∃ z, z = V.heap.size := ⟨_, rfl⟩
        rw [← hgs] at hA8 ⊢
        refine hK.out (fun W => Bl wr W ∧ Ow .u8 5 W Bv p7 m0 c7 y ∧ W.cell? ⟨gs, 0, none⟩ = some (.slice p7 m0 c7)) _ _ (fun W W' h hb => ⟨Bl.stays wr W W' h.1 hb, h.2.1.below hb, cell_below hb h.2.2⟩) (fun _ W h => hS5w W h.1) ⟨Bl.stays wr V _ hV.1 hba, hV.2.below hba, hA8.cell 0⟩ ?_
        clear hK K hV hba hA8 hgs
        (try simp only [Act.put, List.getElem_toArray, List.getElem_cons_zero, List.getElem_cons_succ, List.setIfInBounds_toArray, List.set_cons_zero, List.set_cons_succ])
        refine wpDet_ready (rs := [5]) (by kernel_rfl) (by simp) (AllDet.cons rfl (fun V hV K hK => ?_) AllDet.nil)
        rw [if_pos (by rfl)]
        obtain ⟨p8, c8, V8, hrun, hO8, hb8, hk8⟩ := run_appV (P := Try.prog) (d := 1) V 31 31 22 i1 (.slice none 0 0) 24 Try.underlying31 hi1 hy0 hy1 hy2 rfl (hOv.below (Bl.out' hV.1)) hV.2.2 rfl (by omega) (by unfold maxLen; omega) (Nat.le_trans hBv (Bl.out' hV.1).size)
        refine wp_app _ _ 31 rfl (.slice pq k cq) (.slice (some ⟨gs, 0, none⟩) 1 1) rfl rfl (.slice p8 (k + 1) c8) V8 hrun ?_
        have hB8 : Bv ≤ V.heap.size := Nat.le_trans hBv (Bl.out' hV.1).size
        have hgnV := hAn.below (Bl.out' hV.1)
        have hA8n : At 72 V8 gn #[.int .i64 (gen + 1), .slice p6 nb c6, .slice pq k cq] := (hb8.block gn hgnB).trans hgnV
        have hA8q : At 72 V8 gq #[.int .i64 0, .slice none 0 0, .slice none 0 0] := (hb8.block gq hgqB).trans (hAq.below (Bl.out' hV.1))
        have hO8b := (hOb.below (Bl.out' hV.1)).keptT hk8 (by decide)
        have hS8 := ((hSo.below (Bl.out' hV.1)).kept hk8 (by decide)).snoc (hV.2.1.keptT hk8 (by decide))
        have hb8w : Below w0.heap.size w0 V8 := (hbw.trans ((Bl.out' hV.1).mono hbw.size)).trans (hb8.mono hB0)
        have hB8' : Bv ≤ V8.heap.size := Nat.le_trans hB8 hb8.size
        refine hK.out (FlI w0 gn gq gen p6 nb c6 base Bv pq k cq p8 (k + 1) c8 (vq ++ [.slice p7 m0 c7]) (recs.take k ++ [y])) _ _ (FlI.stays _ _ _ _ _ _ _ _ _ _ _ _ _ _ _ _ _) (fun _ W h => h.an.cell 2) ⟨hA8n, hA8q, hO8b, hO8, hS8, hb8w, hB8'⟩ ?_
        clear hK K hV hrun hO8 hb8 hk8 hgnV hA8n hA8q hO8b hS8 hb8w hB8 hB8'
        (try simp only [Act.put, List.getElem_toArray, List.getElem_cons_zero, List.getElem_cons_succ, List.setIfInBounds_toArray, List.set_cons_zero, List.set_cons_succ])
        refine wpDet_ready (rs := [6]) (by kernel_rfl) (by simp) (AllDet.cons rfl (fun V hV K hK => ?_) AllDet.nil)
        rw [if_pos (by rfl)]
        refine wp_value (.pointer (some ⟨gn, 2, none⟩)) V (by first | (go_simp; done) | (go_simp; rfl)) ?_
        refine hK.out (FlI w0 gn gq gen p6 nb c6 base Bv pq k cq p8 (k + 1) c8 (vq ++ [.slice p7 m0 c7]) (recs.take k ++ [y])) _ _ (FlI.stays _ _ _ _ _ _ _ _ _ _ _ _ _ _ _ _ _) (fun _ W h => h.an.cell 2) hV ?_
        clear hK K hV
        (try simp only [Act.put, List.getElem_toArray, List.getElem_cons_zero, List.getElem_cons_succ, List.setIfInBounds_toArray, List.set_cons_zero, List.set_cons_succ])
        refine wpDet_ready (rs := [7]) (by kernel_rfl) (by simp) (AllDet.cons rfl (fun V hV K hK => ?_) AllDet.nil)
        rw [if_pos (by rfl)]
        refine wp_store_slice _ _ _ rfl gn 2 p8 (k + 1) c8 _ rfl rfl sizeSlV (hV.an.cell 2) (hV.an.free 2) ?_
        have hE : Ex gn V (V.setCell ⟨gn, 2, none⟩ (.slice p8 (k + 1) c8)) := (Ex.refl gn V).setCell 2 _
        have hz := hV.put hE hgnq hgnB hw0n
        refine hK.out (FlI w0 gn gq gen p6 nb c6 base Bv p8 (k + 1) c8 p8 (k + 1) c8 (vq ++ [.slice p7 m0 c7]) (recs.take k ++ [y])) _ _ (FlI.stays _ _ _ _ _ _ _ _ _ _ _ _ _ _ _ _ _) (no_lean (by kernel_rfl)) hz ?_
        clear hK K hV hE hz
        (try simp only [Act.put, List.getElem_toArray, List.getElem_cons_zero, List.getElem_cons_succ, List.setIfInBounds_toArray, List.set_cons_zero, List.set_cons_succ])
        refine wpDet_done (by kernel_rfl) (fun W6 hW6 => ?_) _
        obtain ⟨hAn6, hAq6, hOb6, hOv6, hSo6, hbw6, hBv6⟩ := hW6
        clear hAn hAq hOb hOv hSo hbw hBv hS5 hS5w hck hvw hww
        go_wp2_with fail
        go_roundw
        case rel => exact ⟨k + 1, p8, c8, vq ++ [.slice p7 m0 c7], by omega, by go_num, ⟨hAn6, hAq6, hOb6, hOv6, by rw [HTK.out]; exact hSo6, hbw6, hBv6⟩⟩
        case measure => simp [intOf]; omega
      · have hki : ¬ (k : Int) < (nr : Int) := by omega
        have et : recs.take k = recs := List.take_of_length_le (by rw [← HN.out]; omega)
        have Hkk : Hid (k = recs.length) := by show _ = _; rw [← HN.out]; omega
        rw [et] at hSo
        obtain ⟨x0, x1, x2⟩ := hAn.three
        obtain ⟨z0, z1, z2⟩ := hAq.three
        have f0 := hAq.free 0
        have f1 := hAq.free 1
        have f2 := hAq.free 2
        have hGz := At.put3 hAq (.int .i64 (gen + 1)) (.slice p6 nb c6) (.slice pq k cq)
        have hEz : Ex gq wr (((wr.setCell ⟨gq, 0, none⟩ (.int .i64 (gen + 1))).setCell ⟨gq, 1, none⟩ (.slice p6 nb c6)).setCell ⟨gq, 2, none⟩ (.slice pq k cq)) := (((Ex.refl gq wr).setCell 0 _).setCell 1 _).setCell 2 _
        have hObz := hOb.exT hAq hEz (by decide)
        have hOvz := hOv.exT hAq hEz (by decide)
        have hSoz := hSo.exT hAq hEz (by decide)
        have hbz : Below w.heap.size w (((wr.setCell ⟨gq, 0, none⟩ (.int .i64 (gen + 1))).setCell ⟨gq, 1, none⟩ (.slice p6 nb c6)).setCell ⟨gq, 2, none⟩ (.slice pq k cq)) := (hbaw.trans (hbw.mono hbaw.size)).trans (hEz.below (by rw [HGQ2.out]; exact Nat.le_refl _) hAq.lt)
        clear hAn hAq hOb hOv hSo hEz
        go_wp2_with fail
        refine bodyPost_ret (results_reel1 (p := 6) rfl _ _ gq _ _ _ rfl hGz) rfl ⟨⟨_, rfl, p6, nb, c6, pq, cq, vq, ?_, hObz.lower hbaw.size, ?_, hSoz.lower ?_⟩, hbz⟩
        · show Value.agg #[_, _, _] = Value.agg #[_, _, _]
          rw [Hkk.out]
        · show OwV _ _ _ _ recs.length _ _
          rw [← Hkk.out]
          exact hOvz.lowerB (Nat.le_trans hbaw.size hB0)
        · exact Nat.le_trans hbaw.size hB0

end Go.Proofs.Ytpjhadaiodnnaaa.M
