/-
  Own text: the contract of a tape's Put where it is done.
-/
import Derived.Test.YtpjhadaiodnnaaaTApp
namespace Go.Proofs.Ytpjhadaiodnnaaa.M
open Go.ChangeShapes Go.WideShapes Go.ChangeAt Go.RowKit
set_option linter.unusedSimpArgs false

theorem ownsRow_chC {S : Nat → Prop} {w w' : World} {B : Nat} {e : TypeId} {sz n c : Nat} {p : Option Addr} {xs : List Value} (h : w.ownsRow B e sz (.slice p n c) n xs) (hc : Ch S w w') (hs : ∀ x, p = some x → ¬ S x.block) : w'.ownsRow B e sz (.slice p n c) n xs := by
  refine ⟨h.1, ?_⟩
  rcases h.2 with h2 | ⟨g', cap, cur, hv', hg, hh, r⟩
  · exact Or.inl h2
  · refine Or.inr ⟨g', cap, cur, hv', hg, ?_, r⟩
    injection hv' with e1
    rw [hc.block g' (Array.getElem?_eq_some_iff.1 hh).1 (hs _ e1)]
    exact hh

theorem Ow.chC {k : IntKind} {u : TypeId} {S : Nat → Prop} {w w' : World} {B n c : Nat} {p : Option Addr} {xs : List Int} (h : Ow k u w B p n c xs) (hc : Ch S w w') (hs : ∀ x, p = some x → 0 < c → ¬ S x.block) : Ow k u w' B p n c xs := by
  rcases Nat.eq_zero_or_pos c with h0 | h0
  · exact ⟨h.len, Or.inl ⟨by have := h.cap; omega, h0⟩⟩
  · exact ⟨h.len, h.own.imp id fun h1 => ownsRow_chC h1 hc fun x e => hs x e h0⟩

theorem OwV.chC {u : TypeId} {S : Nat → Prop} {w w' : World} {B n c : Nat} {p : Option Addr} {xs : List Value} (h : OwV u w B p n c xs) (hc : Ch S w w') (hs : ∀ x, p = some x → 0 < c → ¬ S x.block) : OwV u w' B p n c xs := by
  rcases Nat.eq_zero_or_pos c with h0 | h0
  · exact ⟨h.len, Or.inl ⟨by have := h.cap; omega, h0⟩⟩
  · exact ⟨h.len, h.own.imp id fun h1 => ownsRow_chC h1 hc fun x e => hs x e h0⟩

theorem Ow.ltC {k : IntKind} {u : TypeId} {w : World} {B n c : Nat} {p : Option Addr} {xs : List Int} (h : Ow k u w B p n c xs) (x : Addr) (e : p = some x) (h0 : 0 < c) : B ≤ x.block ∧ x.block < w.heap.size := by
  rcases h.own with ⟨_, h1⟩ | h1
  · omega
  · exact World.ownsRow.lt h1 x.block (by rw [e]; rfl)

theorem OwV.ltC {u : TypeId} {w : World} {B n c : Nat} {p : Option Addr} {xs : List Value} (h : OwV u w B p n c xs) (x : Addr) (e : p = some x) (h0 : 0 < c) : B ≤ x.block ∧ x.block < w.heap.size := by
  rcases h.own with ⟨_, h1⟩ | h1
  · omega
  · exact World.ownsRow.lt h1 x.block (by rw [e]; rfl)

theorem Ow.ltC' {k : IntKind} {u : TypeId} {w : World} {B n c : Nat} {p : Option Addr} {xs : List Int} (h : Ow k u w B p n c xs) (x : Addr) (e : p = some x) (h0 : 0 < n) : B ≤ x.block ∧ x.block < w.heap.size := h.ltC x e (Nat.lt_of_lt_of_le h0 h.cap)

theorem TO.slt {w : World} {own : Nat → Nat} {Bv g gt : Nat} {t : TP} {pb : Option Addr} {nb cb : Nat} {pr : Option Addr} {cr : Nat} {vs : List Value} (h : TO w own Bv g gt t pb nb cb pr cr vs) : ∀ i q m d, i < vs.length → vs.getD i undef = .slice q m d → ∀ x, q = some x → 0 < d → x.block < w.heap.size := fun i q m d hi e x ex h0 => by
  obtain ⟨q', m', d', e', hr⟩ := h.sls.2 i hi
  rw [e] at e'
  cases e'
  exact (hr.ltC x ex h0).2

/-- A tape's own memory, where other blocks change. -/
theorem TO.ch {S : Nat → Prop} {w w' : World} {own own2 : Nat → Nat} {Bv g gt : Nat} {t : TP} {pb : Option Addr} {nb cb : Nat} {pr : Option Addr} {cr : Nat} {vs : List Value} (h : TO w own Bv g gt t pb nb cb pr cr vs) (hc : Ch S w w') (hs : ∀ k, Fre own g k → k ≠ gt → ¬ S k) (ho : ∀ k, k < w.heap.size → own k = farM → own2 k = farM) : TO w' own2 Bv g gt t pb nb cb pr cr vs := by
  have hl := h.slt
  refine ⟨h.bas.chC hc (fun x e h0 => hs _ (h.fb x e h0).1 (h.fb x e h0).2), fun x e h0 => ⟨⟨ho _ (h.bas.ltC x e h0).2 (h.fb x e h0).1.1, (h.fb x e h0).1.2⟩, (h.fb x e h0).2⟩, h.rcs.chC hc (fun x e h0 => hs _ (h.fv x e h0).1 (h.fv x e h0).2), fun x e h0 => ⟨⟨ho _ (h.rcs.ltC x e h0).2 (h.fv x e h0).1.1, (h.fv x e h0).1.2⟩, (h.fv x e h0).2⟩, ⟨h.sls.1, fun i hi => ?_⟩, fun i q m d hi e x ex h0 => ⟨⟨ho _ (hl i q m d hi e x ex h0) (h.fs i q m d hi e x ex h0).1.1, (h.fs i q m d hi e x ex h0).1.2⟩, (h.fs i q m d hi e x ex h0).2⟩⟩
  obtain ⟨q, m, d, e, r⟩ := h.sls.2 i hi
  exact ⟨q, m, d, e, r.chC hc (fun x ex h0 => hs _ (h.fs i q m d hi e x ex h0).1 (h.fs i q m d hi e x ex h0).2)⟩

theorem TO.below {w w' : World} {own : Nat → Nat} {Bv g gt : Nat} {t : TP} {pb : Option Addr} {nb cb : Nat} {pr : Option Addr} {cr : Nat} {vs : List Value} (h : TO w own Bv g gt t pb nb cb pr cr vs) (hb : Below w.heap.size w w') : TO w' own Bv g gt t pb nb cb pr cr vs :=
  h.ch (Ch.of_below hb (fun _ => False)) (fun _ _ _ h => h) (fun _ _ e => e)

/-- What was made since is marked as another's. -/
theorem DA.marked2 {w : World} {B lo : Nat} {own : Nat → Nat} {a g : Nat} {d : Dk} {m : PD} (h : DA w B own a g d m) (h0 : ∀ k, lo ≤ k → own k = 0) (hgl : g < lo) (hk : ∀ x, d.kp = some x → x.block < lo) : DA w B (farO own lo w.heap.size) a g d m := by
  refine h.reown (fun k e => ?_) ?_ (fun x e => ?_) (fun k hk => ?_)
  · unfold farO
    rw [if_neg]
    intro hk
    have h1 := h0 k hk.1
    rw [h1] at e
    unfold mark at e
    omega
  · rw [farO_low hgl]; exact h.og
  · rw [farO_low (hk x e)]; exact (h.ok x e).1
  · unfold farO
    rw [if_neg (by omega)]
    exact h.fr k hk

/-- A tape behind the append to its records. -/
theorem put_mid {W2 V V8 : World} {B : Nat} {own : Nat → Nat} {a g gt Bv n na c7 : Nat} {d : Dk} {m : PD} {t : TP} {pb : Option Addr} {nb cb : Nat} {pr : Option Addr} {cr : Nat} {vs : List Value} {p7 p8 : Option Addr} {c8 : Nat} {xs : List Int} (ha : a ≤ 100) (hBv : Bv ≤ W2.heap.size) (hD : DA W2 B own a g d m) (hTO : TO W2 own Bv g gt t pb nb cb pr cr vs) (hA : At 74 W2 gt #[.pointer (some ⟨g, 0, none⟩), .int .i64 t.file, .int .i64 t.kept, .int .i64 t.r.gen, .slice pb nb cb, .slice pr t.r.recs.length cr]) (hb : Below W2.heap.size W2 V) (hn : n = t.r.recs.length) (hO7 : Ow .u8 5 V W2.heap.size p7 na c7 xs) (hO8 : OwV 22 V8 Bv p8 (n + 1) c8 (vs ++ [.slice p7 na c7])) (hg8 : Grow V V8 pr cr p8 c8 ∧ (cr = 0 → V.grownBy V8 none)) (hk8 : Kept 22 V V8) :
    DA V8 B (farO own W2.heap.size V8.heap.size) a g d m ∧ TO V8 (farO own W2.heap.size V8.heap.size) Bv g gt ⟨t.file, t.kept, ⟨t.r.gen, t.r.base, t.r.recs ++ [xs]⟩⟩ pb nb cb p8 c8 (vs ++ [.slice p7 na c7]) ∧ At 74 V8 gt #[.pointer (some ⟨g, 0, none⟩), .int .i64 t.file, .int .i64 t.kept, .int .i64 t.r.gen, .slice pb nb cb, .slice pr n cr] ∧ Ch (fun k => ∃ x, pr = some x ∧ 0 < cr ∧ k = x.block) W2 V8 := by
  have hCg : Ch (fun k => ∃ x, pr = some x ∧ 0 < cr ∧ k = x.block) V V8 := Grow.ch2 hg8 _ (fun x e h0 => ⟨x, e, h0, rfl⟩)
  have hnS : ∀ k, own k ≠ farM → ¬ (∃ x, pr = some x ∧ 0 < cr ∧ k = x.block) := fun k hk ⟨x, e, h0, e2⟩ => hk (by rw [e2]; exact (hTO.fv x e h0).1.1)
  have hgl : g < W2.heap.size := hD.dc.lt
  have hgt : gt < W2.heap.size := hA.lt
  have h3 := hb.size
  have h4 := hCg.size
  have hD8 : DA V8 B own a g d m := (hD.below hb).ch hCg (fun ⟨x, e, h0, e2⟩ => (hTO.fv x e h0).1.2 e2.symm) (fun i k hi e => hnS k (by rw [e]; exact (far_mark ha hi).symm)) (fun x e => hnS _ (by rw [(hD.ok x e).1]; unfold farM; omega)) (fun _ _ => rfl) (fun k hk => hD.fr k (by omega))
  have hD9 := hD8.marked2 (lo := W2.heap.size) (fun k hk => hD.fr k hk) hgl (fun x e => (hD.ok x e).2.2)
  have hol : ∀ k, k < W2.heap.size → own k = farM → farO own W2.heap.size V8.heap.size k = farM := fun k hk e => (farO_low hk).trans e
  refine ⟨hD9, ⟨?_, ?_, ?_, ?_, ?_, ?_⟩, ?_, (Ch.of_below hb _).trans hCg⟩
  · exact (hTO.bas.below hb).keptT hk8 (by decide)
  · exact fun x e h0 => ⟨⟨hol _ (hTO.bas.ltC x e h0).2 (hTO.fb x e h0).1.1, (hTO.fb x e h0).1.2⟩, (hTO.fb x e h0).2⟩
  · show OwV 22 V8 Bv p8 (t.r.recs ++ [xs]).length c8 (vs ++ [.slice p7 na c7])
    rw [List.length_append, ← hn]
    exact hO8
  · intro x e h0
    rcases hg8.1 with ⟨e1, e2, _⟩ | ⟨_, hf⟩
    · rw [e1] at e
      rw [e2] at h0
      exact ⟨⟨hol _ (hTO.rcs.ltC x e h0).2 (hTO.fv x e h0).1.1, (hTO.fv x e h0).1.2⟩, (hTO.fv x e h0).2⟩
    · have h1 := hf x e
      have h2 := (hO8.ltC x e h0).2
      exact ⟨⟨farO_in (by omega) h2, by omega⟩, by omega⟩
  · exact ((hTO.sls.below hb).kept hk8 (by decide)).snoc ((hO7.lower hBv).keptT hk8 (by decide))
  · intro i q m' d' hi e x ex h0
    by_cases hlt : i < vs.length
    · rw [List.getD_eq_getElem?_getD, List.getElem?_append_left hlt, ← List.getD_eq_getElem?_getD] at e
      have h1 := hTO.fs i q m' d' hlt e x ex h0
      exact ⟨⟨hol _ (hTO.slt i q m' d' hlt e x ex h0) h1.1.1, h1.1.2⟩, h1.2⟩
    · have hi2 : i = vs.length := by
        rw [List.length_append] at hi
        have : ([Value.slice p7 na c7]).length = 1 := rfl
        omega
      subst hi2
      rw [List.getD_eq_getElem?_getD, List.getElem?_append_right (Nat.le_refl _), Nat.sub_self] at e
      cases e
      have h1 := hO7.ltC x ex h0
      exact ⟨⟨farO_in h1.1 (by omega), by omega⟩, by omega⟩
  · have h1 := (hA.below hb).ch hCg (fun ⟨x, e, h0, e2⟩ => (hTO.fv x e h0).2 e2.symm)
    rw [hn]
    exact h1

set_option maxRecDepth 20000 in
set_option maxHeartbeats 4000000 in
theorem TPut_ok (w : World) (B : Nat) (own : Nat → Nat) (a g : Nat) (d : Dk) (m : PD) (ha : a ≤ 100) (h : DA w B own a g d m) (hm : Good m) (hB : B ≤ w.heap.size) (gt : Nat) (t : TP) (pb : Option Addr) (nb cb : Nat) (pr : Option Addr) (cr : Nat) (vs : List Value) (hT : TB w own g gt t pb nb cb pr cr vs) (hfile : t.file ≤ 1) (Bv : Nat) (hBv : Bv ≤ w.heap.size) (hTO : TO w own Bv g gt t pb nb cb pr cr vs) (hcount : t.r.recs.length < 1000000)
    (pa : Option Addr) (na ca : Nat) (xs : List Int) (hpa : Rd .u8 w pa na ca xs) (hby : By xs) (hna : na ≤ 8192) (hda : ∀ x, pa = some x → 0 < na → own x.block ≠ mark a t.file ∧ x.block ≠ g) (hroom : m.used + (sealL xs).length ≤ m.room) :
    Calls Try.prog 23 #[.pointer (some ⟨gt, 0, none⟩), .slice pa na ca] w fun e w' => e = .returned (.int .i64 0) ∧ ∃ own2 d2 pr2 cr2 q c, DA w' B own2 a g d2 { m with f := upP m.f t.file { m.f t.file with told := (m.f t.file).told ++ sealL xs } } ∧ TB w' own2 g gt ⟨t.file, t.kept, ⟨t.r.gen, t.r.base, t.r.recs ++ [xs]⟩⟩ pb nb cb pr2 cr2 (vs ++ [.slice q na c]) ∧ TO w' own2 Bv g gt ⟨t.file, t.kept, ⟨t.r.gen, t.r.base, t.r.recs ++ [xs]⟩⟩ pb nb cb pr2 cr2 (vs ++ [.slice q na c]) ∧ (∀ k, k < w.heap.size → own2 k = own k) ∧ Ch (fun k => k = g ∨ k = gt ∨ own k = mark a t.file ∨ ∃ x, pr = some x ∧ 0 < cr ∧ k = x.block) w w' := by
  have hi8 : t.file < 8 := by omega
  have hgl : g < w.heap.size := h.dc.lt
  have hgtl : gt < w.heap.size := hT.blk.lt
  have hM := tmade_yes w gt g (hT.blk.cell 0)
  have hSe := seal_any pa na ca xs w hpa hby hna
  obtain ⟨i1, hi1, hy0, hy1, hy2⟩ := info_parts info1
  obtain ⟨n, HNN⟩ : ∃ z, z = t.r.recs.length := ⟨_, rfl⟩
  have HNn : Hid (n = t.r.recs.length) := HNN
  have HNA : Hid (na ≤ 1099511627776) := by show _ ≤ _; omega
  have HB1 : Hid ((n + 1) * 24 ≤ 140737488355328) := by show _ ≤ _; omega
  have HB2 : Hid (n + 1 ≤ maxLen) := by show _ ≤ _; unfold maxLen; omega
  clear HNN hna hcount
  go_enter Try.func23, Try.ntmps23
  go_wp2_with fail
  refine hM.mono ?_
  rintro e w0 ⟨rfl, hw0⟩
  subst hw0
  clear hM
  go_wp2_with fail
  refine hSe.mono ?_
  rintro e w1 ⟨p1, n1, c1, rfl, hO1, hb1⟩
  clear hSe
  have HRg : Hid (∀ x, p1 = some x → 0 < n1 → x.block ≠ g) := fun x e h0 => by
    have h2 := hO1.ltC' x e h0
    omega
  have hr1 := hm.r1
  have HN1 : Hid (n1 ≤ 549755813888) := by show _ ≤ _; have := hO1.len; omega
  have HRoom : Hid (m.used + n1 ≤ m.room) := by show _ ≤ _; have := hO1.len; omega
  have HTk : Hid ((sealL xs).take n1 = sealL xs) := by show _ = _; rw [List.take_of_length_le (by have := hO1.len; omega)]
  have hTw := hT.below hb1
  have hS0w : ∀ W, Bl w1 W → (W.cell? ⟨gt, 0, none⟩ = some (.pointer (some ⟨g, 0, none⟩)) ∧ W.cell? ⟨gt, 1, none⟩ = some (.int .i64 t.file)) := fun W hW => ⟨cell_below (Bl.out' hW) (hTw.blk.cell 0), cell_below (Bl.out' hW) (hTw.blk.cell 1)⟩
  have hS0 : Bl w1 w1.drew := (Below.refl _ _).drew
  clear hTw hr1
  go_wp2_with fail
  refine wp_region_det [0, 1, 2, 3, 4, 5, 6, 7, 8] (fun W => W.cell? ⟨gt, 0, none⟩ = some (.pointer (some ⟨g, 0, none⟩)) ∧ W.cell? ⟨gt, 1, none⟩ = some (.int .i64 t.file)) (Bl w1) (by kernel_rfl) hS0 ?_
  refine wpDet_take ?vA0 (Bl.stays w1) hS0w (i := 0) rfl (by kernel_rfl) (by kernel_rfl) (by kernel_rfl) (by kernel_rfl) (fun _ _ _ h => h) (Gives.value (by rfl) ?yA0) ?rA0
  case yA0 => (intro w' hSw; (try dsimp only at hSw); go_simp; try with_reducible rfl)
  (try simp only [Act.put, List.getElem_toArray, List.getElem_cons_zero, List.getElem_cons_succ, List.setIfInBounds_toArray, List.set_cons_zero, List.set_cons_succ])
  refine wpDet_take ?vA1 (Bl.stays w1) hS0w (i := 1) rfl (by kernel_rfl) (by kernel_rfl) (by kernel_rfl) (by kernel_rfl) (fun _ _ _ h => h) (Gives.value (by rfl) ?yA1) ?rA1
  case yA1 => (intro w' hSw; (try dsimp only at hSw); go_simp; try with_reducible rfl)
  (try simp only [Act.put, List.getElem_toArray, List.getElem_cons_zero, List.getElem_cons_succ, List.setIfInBounds_toArray, List.set_cons_zero, List.set_cons_succ])
  refine wpDet_take ?vA2 (Bl.stays w1) hS0w (i := 2) rfl (by kernel_rfl) (by kernel_rfl) (by kernel_rfl) (by kernel_rfl) (fun _ _ _ h => h) (Gives.value (by rfl) ?yA2) ?rA2
  case yA2 => (intro w' hSw; (try dsimp only at hSw); go_simp; try with_reducible rfl)
  (try simp only [Act.put, List.getElem_toArray, List.getElem_cons_zero, List.getElem_cons_succ, List.setIfInBounds_toArray, List.set_cons_zero, List.set_cons_succ])
  refine wpDet_take ?vA3 (Bl.stays w1) hS0w (i := 3) rfl (by kernel_rfl) (by kernel_rfl) (by kernel_rfl) (by kernel_rfl) (fun _ _ _ h => h) (Gives.value (by rfl) ?yA3) ?rA3
  case yA3 => (intro w' hSw; have hz0 := hSw.1; (try dsimp only at hSw); go_simp; try with_reducible rfl)
  (try simp only [Act.put, List.getElem_toArray, List.getElem_cons_zero, List.getElem_cons_succ, List.setIfInBounds_toArray, List.set_cons_zero, List.set_cons_succ])
  refine wpDet_take ?vA4 (Bl.stays w1) hS0w (i := 4) rfl (by kernel_rfl) (by kernel_rfl) (by kernel_rfl) (by kernel_rfl) (fun _ _ _ h => h) (Gives.value (by rfl) ?yA4) ?rA4
  case yA4 => (intro w' hSw; (try dsimp only at hSw); go_simp; try with_reducible rfl)
  (try simp only [Act.put, List.getElem_toArray, List.getElem_cons_zero, List.getElem_cons_succ, List.setIfInBounds_toArray, List.set_cons_zero, List.set_cons_succ])
  refine wpDet_take ?vA5 (Bl.stays w1) hS0w (i := 5) rfl (by kernel_rfl) (by kernel_rfl) (by kernel_rfl) (by kernel_rfl) (fun _ _ _ h => h) (Gives.value (by rfl) ?yA5) ?rA5
  case yA5 => (intro w' hSw; (try dsimp only at hSw); go_simp; try with_reducible rfl)
  (try simp only [Act.put, List.getElem_toArray, List.getElem_cons_zero, List.getElem_cons_succ, List.setIfInBounds_toArray, List.set_cons_zero, List.set_cons_succ])
  refine wpDet_take ?vA6 (Bl.stays w1) hS0w (i := 6) rfl (by kernel_rfl) (by kernel_rfl) (by kernel_rfl) (by kernel_rfl) (fun _ _ _ h => h) (Gives.value (by rfl) ?yA6) ?rA6
  case yA6 => (intro w' hSw; (try dsimp only at hSw); go_simp; try with_reducible rfl)
  (try simp only [Act.put, List.getElem_toArray, List.getElem_cons_zero, List.getElem_cons_succ, List.setIfInBounds_toArray, List.set_cons_zero, List.set_cons_succ])
  refine wpDet_take ?vA7 (Bl.stays w1) hS0w (i := 7) rfl (by kernel_rfl) (by kernel_rfl) (by kernel_rfl) (by kernel_rfl) (fun _ _ _ h => h) (Gives.value (by rfl) ?yA7) ?rA7
  case yA7 => (intro w' hSw; have hz0 := hSw.2; (try dsimp only at hSw); go_simp; try with_reducible rfl)
  (try simp only [Act.put, List.getElem_toArray, List.getElem_cons_zero, List.getElem_cons_succ, List.setIfInBounds_toArray, List.set_cons_zero, List.set_cons_succ])
  refine wpDet_take ?vA8 (Bl.stays w1) hS0w (i := 8) rfl (by kernel_rfl) (by kernel_rfl) (by kernel_rfl) (by kernel_rfl) (fun _ _ _ h => h) (Gives.value (by rfl) ?yA8) ?rA8
  case yA8 => (intro w' hSw; (try dsimp only at hSw); go_simp; try with_reducible rfl)
  (try simp only [Act.put, List.getElem_toArray, List.getElem_cons_zero, List.getElem_cons_succ, List.setIfInBounds_toArray, List.set_cons_zero, List.set_cons_succ])
  refine wpDet_ready (rs := [9]) (by kernel_rfl) (by simp) (AllDet.cons rfl (fun V hV K hK => ?_) AllDet.nil)
  rw [if_pos (by rfl)]
  have hbV := Bl.out' hV
  have hbV0 := hb1.trans (hbV.mono hb1.size)
  have hA := Append_gen V B own a g d m (h.below hbV0) hm.r0 hm.up hm.few (Nat.le_trans hB hbV0.size) t.file hi8 p1 n1 c1 _ (hO1.below hbV).rd (fun x e h0 => HRg.out x e h0) HN1.out HRoom.out hm.r1
  rw [act0 hm.left, gone0 hm.left, HTk.out] at hA
  refine wp_enterX 11 #[.pointer (some ⟨g, 0, none⟩), .int .i64 t.file, .slice p1 n1 c1] (by first | (go_simp; done) | (go_simp; rfl)) (fun v V' => v = .int .i64 0 ∧ ∃ own1 d1, DA V' B own1 a g d1 { m with f := upP m.f t.file { m.f t.file with told := (m.f t.file).told ++ sealL xs } } ∧ (∀ k, k < V.heap.size → own1 k = own k) ∧ Ch (fun k => k = g ∨ own k = mark a t.file) V V') (hA.mono fun e V' ⟨h1, h2⟩ => ⟨_, h1, rfl, h2⟩) ?_
  rintro v V1 ⟨rfl, own1, d1, h1, ho1, hc1⟩
  have hT1 := TB.ch ha hi8 (hT.below hbV0) hc1 ho1
  have hTO1 := ((hTO.below hbV0).ch hc1 (fun k hk _ => hk.not ha hi8) (fun k hk e => (ho1 k hk).trans e))
  have hpa1 := (hpa.below hbV0).ch0 hc1 (fun x e h0 => by intro e2; exact e2.elim (hda x e h0).2 (hda x e h0).1)
  have hcc := (Ch.of_below hbV0 (fun k => k = g ∨ own k = mark a t.file)).trans hc1
  have hoo : ∀ k, k < w0.heap.size → own1 k = own k := fun k hk => ho1 k (Nat.lt_of_lt_of_le hk hbV0.size)
  have c01 := hT1.blk.cell 0
  have c11 := hT1.blk.cell 1
  have hS1w : ∀ W, Bl V1 W → (W.cell? ⟨gt, 0, none⟩ = some (.pointer (some ⟨g, 0, none⟩)) ∧ W.cell? ⟨gt, 1, none⟩ = some (.int .i64 t.file)) := fun W hW => ⟨cell_below (Bl.out' hW) c01, cell_below (Bl.out' hW) c11⟩
  refine hK.out (Bl V1) _ _ (Bl.stays V1) (fun _ W h => hS1w W h) (Below.refl _ _) ?_
  clear hK K hV hA ho1 hc1 hbV hbV0 c01 c11
  (try simp only [Act.put, List.getElem_toArray, List.getElem_cons_zero, List.getElem_cons_succ, List.setIfInBounds_toArray, List.set_cons_zero, List.set_cons_succ])
  refine wpDet_ready (rs := [10]) (by kernel_rfl) (by simp) (AllDet.cons rfl (fun V hV K hK => ?_) AllDet.nil)
  rw [if_pos (by rfl)]
  refine wp_value (.int .i64 0) V (by first | (go_simp; done) | (go_simp; rfl)) ?_
  refine hK.out (Bl V1) _ _ (Bl.stays V1) (fun _ W h => hS1w W h) hV ?_
  clear hK K hV
  (try simp only [Act.put, List.getElem_toArray, List.getElem_cons_zero, List.getElem_cons_succ, List.setIfInBounds_toArray, List.set_cons_zero, List.set_cons_succ])
  refine wpDet_done (by kernel_rfl) (fun W2 hW2 => ?_) _
  have hbW := Bl.out' hW2
  have hT2 := hT1.below hbW
  have hD2 := h1.below hbW
  have hTO2 := hTO1.below hbW
  have hpa2 := hpa1.below hbW
  have hc2 := hcc.trans (Ch.of_below hbW _)
  have HOv : Hid (OwV 22 W2 Bv pr n cr vs) := by show OwV _ _ _ _ _ _ _; rw [HNn.out]; exact hTO2.rcs
  have HBv : Hid (Bv ≤ W2.heap.size) := Nat.le_trans hBv hc2.size
  have c5 := hT2.blk.cell 5
  have hS2w : ∀ W, Bl W2 W → W.cell? ⟨gt, 5, none⟩ = some (.slice pr n cr) := fun W hW => by rw [HNn.out]; exact cell_below (Bl.out' hW) c5
  have hS2 : Bl W2 W2.drew := (Below.refl _ _).drew
  clear hS1w hW2 hbW h1 hT1 hTO1 hpa1 hcc hS0w hS0 c5
  go_wp2_with fail
  refine wp_region_det [0, 1, 2, 3, 4, 5, 6] (fun W => W.cell? ⟨gt, 5, none⟩ = some (.slice pr n cr)) (Bl W2) (by kernel_rfl) hS2 ?_
  refine wpDet_take ?vB0 (Bl.stays W2) hS2w (i := 0) rfl (by kernel_rfl) (by kernel_rfl) (by kernel_rfl) (by kernel_rfl) (fun _ _ _ h => h) (Gives.value (by rfl) ?yB0) ?rB0
  case yB0 => (intro w' hSw; (try dsimp only at hSw); go_simp; try with_reducible rfl)
  (try simp only [Act.put, List.getElem_toArray, List.getElem_cons_zero, List.getElem_cons_succ, List.setIfInBounds_toArray, List.set_cons_zero, List.set_cons_succ])
  refine wpDet_take ?vB1 (Bl.stays W2) hS2w (i := 1) rfl (by kernel_rfl) (by kernel_rfl) (by kernel_rfl) (by kernel_rfl) (fun _ _ _ h => h) (Gives.value (by rfl) ?yB1) ?rB1
  case yB1 => (intro w' hSw; (try dsimp only at hSw); go_simp; try with_reducible rfl)
  (try simp only [Act.put, List.getElem_toArray, List.getElem_cons_zero, List.getElem_cons_succ, List.setIfInBounds_toArray, List.set_cons_zero, List.set_cons_succ])
  refine wpDet_take ?vB2 (Bl.stays W2) hS2w (i := 2) rfl (by kernel_rfl) (by kernel_rfl) (by kernel_rfl) (by kernel_rfl) (fun _ _ _ h => h) (Gives.value (by rfl) ?yB2) ?rB2
  case yB2 => (intro w' hSw; (try dsimp only at hSw); go_simp; try with_reducible rfl)
  (try simp only [Act.put, List.getElem_toArray, List.getElem_cons_zero, List.getElem_cons_succ, List.setIfInBounds_toArray, List.set_cons_zero, List.set_cons_succ])
  refine wpDet_take ?vB3 (Bl.stays W2) hS2w (i := 3) rfl (by kernel_rfl) (by kernel_rfl) (by kernel_rfl) (by kernel_rfl) (fun _ _ _ h => h) (Gives.value (by rfl) ?yB3) ?rB3
  case yB3 => (intro w' hSw; (try dsimp only at hSw); go_simp; try with_reducible rfl)
  (try simp only [Act.put, List.getElem_toArray, List.getElem_cons_zero, List.getElem_cons_succ, List.setIfInBounds_toArray, List.set_cons_zero, List.set_cons_succ])
  refine wpDet_take ?vB4 (Bl.stays W2) hS2w (i := 4) rfl (by kernel_rfl) (by kernel_rfl) (by kernel_rfl) (by kernel_rfl) (fun _ _ _ h => h) (Gives.value (by rfl) ?yB4) ?rB4
  case yB4 => (intro w' hSw; (try dsimp only at hSw); go_simp; try with_reducible rfl)
  (try simp only [Act.put, List.getElem_toArray, List.getElem_cons_zero, List.getElem_cons_succ, List.setIfInBounds_toArray, List.set_cons_zero, List.set_cons_succ])
  refine wpDet_take ?vB5 (Bl.stays W2) hS2w (i := 5) rfl (by kernel_rfl) (by kernel_rfl) (by kernel_rfl) (by kernel_rfl) (fun _ _ _ h => h) (Gives.value (by rfl) ?yB5) ?rB5
  case yB5 => (intro w' hSw; have hz0 := hSw; (try dsimp only at hSw); go_simp; try with_reducible rfl)
  (try simp only [Act.put, List.getElem_toArray, List.getElem_cons_zero, List.getElem_cons_succ, List.setIfInBounds_toArray, List.set_cons_zero, List.set_cons_succ])
  refine wpDet_take ?vB6 (Bl.stays W2) hS2w (i := 6) rfl (by kernel_rfl) (by kernel_rfl) (by kernel_rfl) (by kernel_rfl) (fun _ _ _ h => h) (Gives.value (by rfl) ?yB6) ?rB6
  case yB6 => (intro w' hSw; (try dsimp only at hSw); go_simp; try with_reducible rfl)
  (try simp only [Act.put, List.getElem_toArray, List.getElem_cons_zero, List.getElem_cons_succ, List.setIfInBounds_toArray, List.set_cons_zero, List.set_cons_succ])
  refine wpDet_ready (rs := [7]) (by kernel_rfl) (by simp) (AllDet.cons rfl (fun V hV K hK => ?_) AllDet.nil)
  rw [if_pos (by rfl)]
  have hC := bcloneO pa na ca xs V (hpa2.below (Bl.out' hV)) HNA.out
  refine wp_enterX 61 #[.slice pa na ca] (by first | (go_simp; done) | (go_simp; rfl)) (fun v V' => ∃ p' c', v = .slice p' na c' ∧ Ow .u8 5 V' V.heap.size p' na c' xs ∧ Below V.heap.size V V') (hC.mono fun e V' ⟨p', c', h1, h2, h3⟩ => ⟨_, h1, p', c', rfl, h2, h3⟩) ?_
  rintro v V' ⟨p7, c7, rfl, ho7, hb7⟩
  refine hK.out (fun W => Bl W2 W ∧ Ow .u8 5 W W2.heap.size p7 na c7 xs) _ _ (fun W W' h hb => ⟨Bl.stays W2 W W' h.1 hb, h.2.below hb⟩) (fun _ W h => hS2w W h.1) ⟨Bl.stays W2 V V' hV hb7, ho7.lower (Bl.out' hV).size⟩ ?_
  clear hK K hC hV ho7 hb7
  (try simp only [Act.put, List.getElem_toArray, List.getElem_cons_zero, List.getElem_cons_succ, List.setIfInBounds_toArray, List.set_cons_zero, List.set_cons_succ])
  refine wpDet_ready (rs := [8]) (by kernel_rfl) (by simp) (AllDet.cons rfl (fun V hV K hK => ?_) AllDet.nil)
  rw [if_pos (by rfl)]
  refine wp_value (.slice (some ⟨V.heap.size, 0, none⟩) 1 1) (V.alloc (.cells #[.slice p7 na c7] 22)) (by first | (go_simp; done) | (go_simp; rfl)) ?_
  have hba := below_alloc V (.cells #[.slice p7 na c7] 22)
  have hA8 := At.new 22 V #[.slice p7 na c7]
  obtain ⟨gs, hgs⟩ : ∃ z, z = V.heap.size := ⟨_, rfl⟩
  rw [← hgs] at hA8 ⊢
  refine hK.out (fun W => Bl W2 W ∧ Ow .u8 5 W W2.heap.size p7 na c7 xs ∧ W.cell? ⟨gs, 0, none⟩ = some (.slice p7 na c7)) _ _ (fun W W' h hb => ⟨Bl.stays W2 W W' h.1 hb, h.2.1.below hb, cell_below hb h.2.2⟩) (fun _ W h => hS2w W h.1) ⟨Bl.stays W2 V _ hV.1 hba, hV.2.below hba, hA8.cell 0⟩ ?_
  clear hK K hV hba hA8 hgs
  (try simp only [Act.put, List.getElem_toArray, List.getElem_cons_zero, List.getElem_cons_succ, List.setIfInBounds_toArray, List.set_cons_zero, List.set_cons_succ])
  refine wpDet_ready (rs := [9]) (by kernel_rfl) (by simp) (AllDet.cons rfl (fun V hV K hK => ?_) AllDet.nil)
  rw [if_pos (by rfl)]
  have hbV := Bl.out' hV.1
  obtain ⟨p8, c8, V8, hrun, hO8, hg8, hk8⟩ := run_appG (P := Try.prog) (d := 1) V 31 31 22 i1 (.slice none 0 0) 24 Try.underlying31 hi1 hy0 hy1 hy2 rfl (HOv.out.below hbV) hV.2.2 rfl HB1.out HB2.out (Nat.le_trans HBv.out hbV.size)
  refine wp_app _ _ 31 rfl (.slice pr n cr) (.slice (some ⟨gs, 0, none⟩) 1 1) rfl rfl (.slice p8 (n + 1) c8) V8 hrun ?_
  have hP := put_mid ha HBv.out hD2 hTO2 hT2.blk hbV HNn.out hV.2.1 hO8 hg8 hk8
  have hA88 := hP.2.2.1
  refine hK.out (Bl V8) _ _ (Bl.stays V8) (fun _ W h => cell_below (Bl.out' h) (hA88.cell 5)) (Below.refl _ _) ?_
  clear hK K hV hrun hg8 hk8 hO8 hbV
  (try simp only [Act.put, List.getElem_toArray, List.getElem_cons_zero, List.getElem_cons_succ, List.setIfInBounds_toArray, List.set_cons_zero, List.set_cons_succ])
  refine wpDet_ready (rs := [10]) (by kernel_rfl) (by simp) (AllDet.cons rfl (fun V hV K hK => ?_) AllDet.nil)
  rw [if_pos (by rfl)]
  refine wp_value (.pointer (some ⟨gt, 0, none⟩)) V (by first | (go_simp; done) | (go_simp; rfl)) ?_
  refine hK.out (Bl V8) _ _ (Bl.stays V8) (no_lean (by kernel_rfl)) hV ?_
  clear hK K hV
  (try simp only [Act.put, List.getElem_toArray, List.getElem_cons_zero, List.getElem_cons_succ, List.setIfInBounds_toArray, List.set_cons_zero, List.set_cons_succ])
  refine wpDet_ready (rs := [11]) (by kernel_rfl) (by simp) (AllDet.cons rfl (fun V hV K hK => ?_) AllDet.nil)
  rw [if_pos (by rfl)]
  refine wp_value (.pointer (some ⟨gt, 3, none⟩)) V (by first | (go_simp; done) | (go_simp; rfl)) ?_
  refine hK.out (Bl V8) _ _ (Bl.stays V8) (no_lean (by kernel_rfl)) hV ?_
  clear hK K hV
  (try simp only [Act.put, List.getElem_toArray, List.getElem_cons_zero, List.getElem_cons_succ, List.setIfInBounds_toArray, List.set_cons_zero, List.set_cons_succ])
  refine wpDet_ready (rs := [12]) (by kernel_rfl) (by simp) (AllDet.cons rfl (fun V hV K hK => ?_) AllDet.nil)
  rw [if_pos (by rfl)]
  refine wp_value (.pointer (some ⟨gt, 5, none⟩)) V (by first | (go_simp; done) | (go_simp; rfl)) ?_
  refine hK.out (Bl V8) _ _ (Bl.stays V8) (no_lean (by kernel_rfl)) hV ?_
  clear hK K hV
  (try simp only [Act.put, List.getElem_toArray, List.getElem_cons_zero, List.getElem_cons_succ, List.setIfInBounds_toArray, List.set_cons_zero, List.set_cons_succ])
  refine wpDet_ready (rs := [13]) (by kernel_rfl) (by simp) (AllDet.cons rfl (fun V hV K hK => ?_) AllDet.nil)
  rw [if_pos (by rfl)]
  have hAV := hA88.below (Bl.out' hV)
  refine wp_store_slice _ _ _ rfl gt 5 p8 (n + 1) c8 _ rfl rfl sizeSlV (hAV.cell 5) (hAV.free 5) ?_
  have hE : Ex gt V8 (V.setCell ⟨gt, 5, none⟩ (.slice p8 (n + 1) c8)) := (Ex.of_below (Bl.out' hV)).trans ((Ex.refl gt V).setCell 5 _)
  have hAs := heap_setCell_same V gt 5 _ _ (.slice p8 (n + 1) c8) hAV
  refine hK.out (fun W => Ex gt V8 W ∧ At 74 W gt #[.pointer (some ⟨g, 0, none⟩), .int .i64 t.file, .int .i64 t.kept, .int .i64 t.r.gen, .slice pb nb cb, .slice p8 (n + 1) c8]) _ _ (fun W W' h hb => ⟨h.1.trans (Ex.of_below hb), h.2.below hb⟩) (no_lean (by kernel_rfl)) ⟨hE, hAs⟩ ?_
  clear hK K hV hAV hE hAs
  (try simp only [Act.put, List.getElem_toArray, List.getElem_cons_zero, List.getElem_cons_succ, List.setIfInBounds_toArray, List.set_cons_zero, List.set_cons_succ])
  refine wpDet_done (by kernel_rfl) (fun W9 hW9 => ?_) _
  obtain ⟨hE9, hA9⟩ := hW9
  obtain ⟨hD8, hTO8, _, hc8⟩ := hP
  have hot : farO own1 W2.heap.size V8.heap.size gt = farM := (farO_low hT2.blk.lt).trans hT2.fg.1
  have hD9 := hD8.exF ha hE9 hot hT.fg.2
  have hTO9 := hTO8.ch (Ch.of_ex hE9) (fun k _ hk => hk) (fun _ _ e => e)
  have hT9 := hTO9.tb (by
    show At 74 W9 gt #[.pointer (some ⟨g, 0, none⟩), .int .i64 t.file, .int .i64 t.kept, .int .i64 t.r.gen, .slice pb nb cb, .slice p8 (t.r.recs ++ [xs]).length c8]
    rw [List.length_append, ← HNn.out]
    exact hA9) ⟨hot, hT.fg.2⟩
  have hcF : Ch (fun k => k = g ∨ k = gt ∨ own k = mark a t.file ∨ ∃ x, pr = some x ∧ 0 < cr ∧ k = x.block) w0 W9 := ((hc2.mono (T := fun k => k = g ∨ k = gt ∨ own k = mark a t.file ∨ ∃ x, pr = some x ∧ 0 < cr ∧ k = x.block) (fun k _ e => e.elim Or.inl fun e => Or.inr (Or.inr (Or.inl e)))).then hc8 (fun k _ e => Or.inr (Or.inr (Or.inr e)))).then (Ch.of_ex hE9) (fun k _ e => Or.inr (Or.inl e))
  have hoF : ∀ k, k < w0.heap.size → farO own1 W2.heap.size V8.heap.size k = own k := fun k hk => (farO_low (Nat.lt_of_lt_of_le hk hc2.size)).trans (hoo k hk)
  clear hS2w hS2 hi1 hy0 hy1 hy2 HOv
  go_wp2_with fail
  go_ret
  exact ⟨rfl, _, d1, p8, c8, p7, c7, hD9, hT9, hTO9, hoF, hcF⟩

end Go.Proofs.Ytpjhadaiodnnaaa.M
