/-
  Own text: append of one value to a row of its owner: where the new row lies.
  Own text: the contract of a tape's Put where it is done.
  Own text: the contract of a tape's At where the record is there.
  Own text: the calls of a tape that no call made.
  Own text: Open of a tape on a disk that no call made.
  Own text: Open of a tape: what its loop over the files finds.
  Own text: a region that draws its order, as Det2 has it; who leans on the condition is told by all that must have come up ahead, not by what is bound at once alone. No program is looked at.
  Own text: Open of a tape, whatever lies in its files.
  Own text: bytes as texts; the records of a tape as texts.
  Own text: a disk and a tape over it, in one condition; what the tape's calls make of it where they are done.
  Own text: calls on a disk that have no room; how many bytes a disk has.
  Own text: write of a tape, whatever the fuse is and whether there is room.
  Own text: Save of a tape, whatever the fuse is, whether there is room, and whether it fits.
-/
import Derived.Test.YtpjhadaiodnnaaaGreatXC
import Derived.Test.YtpjhadaiodnnaaaGreatXB
import Derived.Laws.BytesArg
import Derived.Lib.ConvBytes
section
namespace Go.Proofs.YtpjhadaiodnnaaaGreat.M
open Go.ChangeShapes Go.WideShapes Go.ChangeAt Go.RowKit
set_option linter.unusedSimpArgs false

/-- What a growing row leaves: all but its own block. -/
theorem Grow.ch2 {w w' : World} {p p' : Option Addr} {c c' : Nat} (h : Grow w w' p c p' c' ∧ (c = 0 → w.grownBy w' none)) (S : Nat → Prop) (hs : ∀ a, p = some a → 0 < c → S a.block) : Ch S w w' := by
  rcases Nat.eq_zero_or_pos c with h0 | h0
  · have h2 := h.2 h0
    exact ⟨h2.os, h2.tape, h2.output, h2.size, fun j hj _ => h2.block j hj fun e => by cases e⟩
  · exact h.1.ch S (fun a e => hs a e h0)

end Go.Proofs.YtpjhadaiodnnaaaGreat.M
end

section
namespace Go.Proofs.YtpjhadaiodnnaaaGreat.M
open Go.ChangeShapes Go.WideShapes Go.ChangeAt Go.RowKit
set_option linter.unusedSimpArgs false

theorem ownsRow_chC {S : Nat → Prop} {w w' : World} {B : Nat} {e : TypeId} {sz n c : Nat} {p : Option Addr} {xs : List Value} (h : w.ownsRow B e sz (.slice p n c) n xs) (hc : Ch S w w') (hs : ∀ x, p = some x → ¬ S x.block) : w'.ownsRow B e sz (.slice p n c) n xs := by
  refine ⟨h.1, ?_⟩
  rcases h.2 with h2 | ⟨g', cap, cur, hv', hg, hh, r⟩
  · exact Or.inl h2
  · refine Or.inr ⟨g', cap, cur, hv', hg, ?_, r⟩
    injection hv' with e1
    rw [hc.block g' (Array.getElem?_eq_some_iff.1 hh).1 (hs _ e1)]
    exact hh

theorem Ow.chC {k : IntKind} {u : TypeId} {S : Nat → Prop} {w w' : World} {B n c : Nat} {p : Option Addr} {xs : List Int} (h : Ow k u w B p n c xs) (hc : Ch S w w') (hs : ∀ x, p = some x → 0 < c → ¬ S x.block) : Ow k u w' B p n c xs := by
  rcases Nat.eq_zero_or_pos c with h0 | h0
  · exact ⟨h.len, Or.inl ⟨by have := h.cap; omega, h0⟩⟩
  · exact ⟨h.len, h.own.imp id fun h1 => ownsRow_chC h1 hc fun x e => hs x e h0⟩

theorem OwV.chC {u : TypeId} {S : Nat → Prop} {w w' : World} {B n c : Nat} {p : Option Addr} {xs : List Value} (h : OwV u w B p n c xs) (hc : Ch S w w') (hs : ∀ x, p = some x → 0 < c → ¬ S x.block) : OwV u w' B p n c xs := by
  rcases Nat.eq_zero_or_pos c with h0 | h0
  · exact ⟨h.len, Or.inl ⟨by have := h.cap; omega, h0⟩⟩
  · exact ⟨h.len, h.own.imp id fun h1 => ownsRow_chC h1 hc fun x e => hs x e h0⟩

theorem Ow.ltC {k : IntKind} {u : TypeId} {w : World} {B n c : Nat} {p : Option Addr} {xs : List Int} (h : Ow k u w B p n c xs) (x : Addr) (e : p = some x) (h0 : 0 < c) : B ≤ x.block ∧ x.block < w.heap.size := by
  rcases h.own with ⟨_, h1⟩ | h1
  · omega
  · exact World.ownsRow.lt h1 x.block (by rw [e]; rfl)

theorem OwV.ltC {u : TypeId} {w : World} {B n c : Nat} {p : Option Addr} {xs : List Value} (h : OwV u w B p n c xs) (x : Addr) (e : p = some x) (h0 : 0 < c) : B ≤ x.block ∧ x.block < w.heap.size := by
  rcases h.own with ⟨_, h1⟩ | h1
  · omega
  · exact World.ownsRow.lt h1 x.block (by rw [e]; rfl)

theorem Ow.ltC' {k : IntKind} {u : TypeId} {w : World} {B n c : Nat} {p : Option Addr} {xs : List Int} (h : Ow k u w B p n c xs) (x : Addr) (e : p = some x) (h0 : 0 < n) : B ≤ x.block ∧ x.block < w.heap.size := h.ltC x e (Nat.lt_of_lt_of_le h0 h.cap)

theorem TO.slt {w : World} {own : Nat → Nat} {Bv g gt : Nat} {t : TP} {pb : Option Addr} {nb cb : Nat} {pr : Option Addr} {cr : Nat} {vs : List Value} (h : TO w own Bv g gt t pb nb cb pr cr vs) : ∀ i q m d, i < vs.length → vs.getD i undef = .slice q m d → ∀ x, q = some x → 0 < d → x.block < w.heap.size := fun i q m d hi e x ex h0 => by
  obtain ⟨q', m', d', e', hr⟩ := h.sls.2 i hi
  rw [e] at e'
  cases e'
  exact (hr.ltC x ex h0).2

/-- A tape's own memory, where other blocks change. -/
theorem TO.ch {S : Nat → Prop} {w w' : World} {own own2 : Nat → Nat} {Bv g gt : Nat} {t : TP} {pb : Option Addr} {nb cb : Nat} {pr : Option Addr} {cr : Nat} {vs : List Value} (h : TO w own Bv g gt t pb nb cb pr cr vs) (hc : Ch S w w') (hs : ∀ k, Fre own g k → k ≠ gt → ¬ S k) (ho : ∀ k, k < w.heap.size → own k = farM → own2 k = farM) : TO w' own2 Bv g gt t pb nb cb pr cr vs := by
  have hl := h.slt
  refine ⟨h.bas.chC hc (fun x e h0 => hs _ (h.fb x e h0).1 (h.fb x e h0).2), fun x e h0 => ⟨⟨ho _ (h.bas.ltC x e h0).2 (h.fb x e h0).1.1, (h.fb x e h0).1.2⟩, (h.fb x e h0).2⟩, h.rcs.chC hc (fun x e h0 => hs _ (h.fv x e h0).1 (h.fv x e h0).2), fun x e h0 => ⟨⟨ho _ (h.rcs.ltC x e h0).2 (h.fv x e h0).1.1, (h.fv x e h0).1.2⟩, (h.fv x e h0).2⟩, ⟨h.sls.1, fun i hi => ?_⟩, fun i q m d hi e x ex h0 => ⟨⟨ho _ (hl i q m d hi e x ex h0) (h.fs i q m d hi e x ex h0).1.1, (h.fs i q m d hi e x ex h0).1.2⟩, (h.fs i q m d hi e x ex h0).2⟩⟩
  obtain ⟨q, m, d, e, r⟩ := h.sls.2 i hi
  exact ⟨q, m, d, e, r.chC hc (fun x ex h0 => hs _ (h.fs i q m d hi e x ex h0).1 (h.fs i q m d hi e x ex h0).2)⟩

theorem TO.below {w w' : World} {own : Nat → Nat} {Bv g gt : Nat} {t : TP} {pb : Option Addr} {nb cb : Nat} {pr : Option Addr} {cr : Nat} {vs : List Value} (h : TO w own Bv g gt t pb nb cb pr cr vs) (hb : Below w.heap.size w w') : TO w' own Bv g gt t pb nb cb pr cr vs :=
  h.ch (Ch.of_below hb (fun _ => False)) (fun _ _ _ h => h) (fun _ _ e => e)

/-- What was made since is marked as another's. -/
theorem DA.marked2 {w : World} {B lo : Nat} {own : Nat → Nat} {a g : Nat} {d : Dk} {m : PD} (h : DA w B own a g d m) (h0 : ∀ k, lo ≤ k → own k = 0) (hgl : g < lo) (hk : ∀ x, d.kp = some x → x.block < lo) : DA w B (farO own lo w.heap.size) a g d m := by
  refine h.reown (fun k e => ?_) ?_ (fun x e => ?_) (fun k hk => ?_)
  · unfold farO
    rw [if_neg]
    intro hk
    have h1 := h0 k hk.1
    rw [h1] at e
    unfold mark at e
    omega
  · rw [farO_low hgl]; exact h.og
  · rw [farO_low (hk x e)]; exact (h.ok x e).1
  · unfold farO
    rw [if_neg (by omega)]
    exact h.fr k hk

/-- A tape behind the append to its records. -/
theorem put_mid {W2 V V8 : World} {B : Nat} {own : Nat → Nat} {a g gt Bv n na c7 : Nat} {d : Dk} {m : PD} {t : TP} {pb : Option Addr} {nb cb : Nat} {pr : Option Addr} {cr : Nat} {vs : List Value} {p7 p8 : Option Addr} {c8 : Nat} {xs : List Int} (ha : a ≤ 100) (hBv : Bv ≤ W2.heap.size) (hD : DA W2 B own a g d m) (hTO : TO W2 own Bv g gt t pb nb cb pr cr vs) (hA : At 81 W2 gt #[.pointer (some ⟨g, 0, none⟩), .int .i64 t.file, .int .i64 t.kept, .int .i64 t.r.gen, .slice pb nb cb, .slice pr t.r.recs.length cr]) (hb : Below W2.heap.size W2 V) (hn : n = t.r.recs.length) (hO7 : Ow .u8 5 V W2.heap.size p7 na c7 xs) (hO8 : OwG 40 V8 Bv p8 (n + 1) c8 (vs ++ [.slice p7 na c7])) (hg8 : Grow V V8 pr cr p8 c8 ∧ (cr = 0 → V.grownBy V8 none)) (hk8 : Kept 40 V V8) :
    DA V8 B (farO own W2.heap.size V8.heap.size) a g d m ∧ TO V8 (farO own W2.heap.size V8.heap.size) Bv g gt ⟨t.file, t.kept, ⟨t.r.gen, t.r.base, t.r.recs ++ [xs]⟩⟩ pb nb cb p8 c8 (vs ++ [.slice p7 na c7]) ∧ At 81 V8 gt #[.pointer (some ⟨g, 0, none⟩), .int .i64 t.file, .int .i64 t.kept, .int .i64 t.r.gen, .slice pb nb cb, .slice pr n cr] ∧ Ch (fun k => ∃ x, pr = some x ∧ 0 < cr ∧ k = x.block) W2 V8 := by
  have hCg : Ch (fun k => ∃ x, pr = some x ∧ 0 < cr ∧ k = x.block) V V8 := Grow.ch2 hg8 _ (fun x e h0 => ⟨x, e, h0, rfl⟩)
  have hnS : ∀ k, own k ≠ farM → ¬ (∃ x, pr = some x ∧ 0 < cr ∧ k = x.block) := fun k hk ⟨x, e, h0, e2⟩ => hk (by rw [e2]; exact (hTO.fv x e h0).1.1)
  have hgl : g < W2.heap.size := hD.dc.lt
  have hgt : gt < W2.heap.size := hA.lt
  have h3 := hb.size
  have h4 := hCg.size
  have hD8 : DA V8 B own a g d m := (hD.below hb).ch hCg (fun ⟨x, e, h0, e2⟩ => (hTO.fv x e h0).1.2 e2.symm) (fun i k hi e => hnS k (by rw [e]; exact (far_mark ha hi).symm)) (fun x e => hnS _ (by rw [(hD.ok x e).1]; unfold farM; omega)) (fun _ _ => rfl) (fun k hk => hD.fr k (by omega))
  have hD9 := hD8.marked2 (lo := W2.heap.size) (fun k hk => hD.fr k hk) hgl (fun x e => (hD.ok x e).2.2)
  have hol : ∀ k, k < W2.heap.size → own k = farM → farO own W2.heap.size V8.heap.size k = farM := fun k hk e => (farO_low hk).trans e
  refine ⟨hD9, ⟨?_, ?_, ?_, ?_, ?_, ?_⟩, ?_, (Ch.of_below hb _).trans hCg⟩
  · exact (hTO.bas.below hb).keptT hk8 (by decide)
  · exact fun x e h0 => ⟨⟨hol _ (hTO.bas.ltC x e h0).2 (hTO.fb x e h0).1.1, (hTO.fb x e h0).1.2⟩, (hTO.fb x e h0).2⟩
  · show OwG 40 V8 Bv p8 (t.r.recs ++ [xs]).length c8 (vs ++ [.slice p7 na c7])
    rw [List.length_append, ← hn]
    exact hO8
  · intro x e h0
    rcases hg8.1 with ⟨e1, e2, _⟩ | ⟨_, hf⟩
    · rw [e1] at e
      rw [e2] at h0
      exact ⟨⟨hol _ (hTO.rcs.ltC x e h0).2 (hTO.fv x e h0).1.1, (hTO.fv x e h0).1.2⟩, (hTO.fv x e h0).2⟩
    · have h1 := hf x e
      have h2 := (hO8.ltC x e h0).2
      exact ⟨⟨farO_in (by omega) h2, by omega⟩, by omega⟩
  · exact ((hTO.sls.below hb).kept hk8 (by decide)).snoc ((hO7.lower hBv).keptT hk8 (by decide))
  · intro i q m' d' hi e x ex h0
    by_cases hlt : i < vs.length
    · rw [List.getD_eq_getElem?_getD, List.getElem?_append_left hlt, ← List.getD_eq_getElem?_getD] at e
      have h1 := hTO.fs i q m' d' hlt e x ex h0
      exact ⟨⟨hol _ (hTO.slt i q m' d' hlt e x ex h0) h1.1.1, h1.1.2⟩, h1.2⟩
    · have hi2 : i = vs.length := by
        rw [List.length_append] at hi
        have : ([Value.slice p7 na c7]).length = 1 := rfl
        omega
      subst hi2
      rw [List.getD_eq_getElem?_getD, List.getElem?_append_right (Nat.le_refl _), Nat.sub_self] at e
      cases e
      have h1 := hO7.ltC x ex h0
      exact ⟨⟨farO_in h1.1 (by omega), by omega⟩, by omega⟩
  · have h1 := (hA.below hb).ch hCg (fun ⟨x, e, h0, e2⟩ => (hTO.fv x e h0).2 e2.symm)
    rw [hn]
    exact h1

set_option maxRecDepth 20000 in
set_option maxHeartbeats 4000000 in
theorem TPut_ok (w : World) (B : Nat) (own : Nat → Nat) (a g : Nat) (d : Dk) (m : PD) (ha : a ≤ 100) (h : DA w B own a g d m) (hm : Good m) (hB : B ≤ w.heap.size) (gt : Nat) (t : TP) (pb : Option Addr) (nb cb : Nat) (pr : Option Addr) (cr : Nat) (vs : List Value) (hT : TB w own g gt t pb nb cb pr cr vs) (hfile : t.file ≤ 1) (Bv : Nat) (hBv : Bv ≤ w.heap.size) (hTO : TO w own Bv g gt t pb nb cb pr cr vs) (hcount : t.r.recs.length < 1000000)
    (pa : Option Addr) (na ca : Nat) (xs : List Int) (hpa : Rd .u8 w pa na ca xs) (hby : By xs) (hna : na ≤ 8192) (hda : ∀ x, pa = some x → 0 < na → own x.block ≠ mark a t.file ∧ x.block ≠ g) (hroom : m.used + (sealL xs).length ≤ m.room) :
    Calls Tryz.prog 21 #[.pointer (some ⟨gt, 0, none⟩), .slice pa na ca] w fun e w' => e = .returned (.int .i64 0) ∧ ∃ own2 d2 pr2 cr2 q c, DA w' B own2 a g d2 { m with f := upP m.f t.file { m.f t.file with told := (m.f t.file).told ++ sealL xs } } ∧ TB w' own2 g gt ⟨t.file, t.kept, ⟨t.r.gen, t.r.base, t.r.recs ++ [xs]⟩⟩ pb nb cb pr2 cr2 (vs ++ [.slice q na c]) ∧ TO w' own2 Bv g gt ⟨t.file, t.kept, ⟨t.r.gen, t.r.base, t.r.recs ++ [xs]⟩⟩ pb nb cb pr2 cr2 (vs ++ [.slice q na c]) ∧ (∀ k, k < w.heap.size → own2 k = own k) ∧ Ch (fun k => k = g ∨ k = gt ∨ own k = mark a t.file ∨ ∃ x, pr = some x ∧ 0 < cr ∧ k = x.block) w w' := by
  have hi8 : t.file < 8 := by omega
  have hgl : g < w.heap.size := h.dc.lt
  have hgtl : gt < w.heap.size := hT.blk.lt
  have hM := tmade_yes w gt g (hT.blk.cell 0)
  have hSe := seal_any pa na ca xs w hpa hby hna
  obtain ⟨i1, hi1, hy0, hy1, hy2⟩ := info_parts info1
  obtain ⟨n, HNN⟩ : ∃ z, z = t.r.recs.length := ⟨_, rfl⟩
  have HNn : Hid (n = t.r.recs.length) := HNN
  have HNA : Hid (na ≤ 1099511627776) := by show _ ≤ _; omega
  have HB1 : Hid ((n + 1) * 24 ≤ 140737488355328) := by show _ ≤ _; omega
  have HB2 : Hid (n + 1 ≤ maxLen) := by show _ ≤ _; unfold maxLen; omega
  clear HNN hna hcount
  go_enter Tryz.func21, Tryz.ntmps21
  go_wp2_with fail
  refine hM.mono ?_
  rintro e w0 ⟨rfl, hw0⟩
  subst hw0
  clear hM
  go_wp2_with fail
  refine hSe.mono ?_
  rintro e w1 ⟨p1, n1, c1, rfl, hO1, hb1⟩
  clear hSe
  have HRg : Hid (∀ x, p1 = some x → 0 < n1 → x.block ≠ g) := fun x e h0 => by
    have h2 := hO1.ltC' x e h0
    omega
  have hr1 := hm.r1
  have HN1 : Hid (n1 ≤ 549755813888) := by show _ ≤ _; have := hO1.len; omega
  have HRoom : Hid (m.used + n1 ≤ m.room) := by show _ ≤ _; have := hO1.len; omega
  have HTk : Hid ((sealL xs).take n1 = sealL xs) := by show _ = _; rw [List.take_of_length_le (by have := hO1.len; omega)]
  have hTw := hT.below hb1
  have hS0w : ∀ W, Bl w1 W → (W.cell? ⟨gt, 0, none⟩ = some (.pointer (some ⟨g, 0, none⟩)) ∧ W.cell? ⟨gt, 1, none⟩ = some (.int .i64 t.file)) := fun W hW => ⟨cell_below (Bl.out' hW) (hTw.blk.cell 0), cell_below (Bl.out' hW) (hTw.blk.cell 1)⟩
  have hS0 : Bl w1 w1.drew := (Below.refl _ _).drew
  clear hTw hr1
  go_wp2_with fail
  refine wp_region_det [0, 1, 2, 3, 4, 5, 6, 7, 8] (fun W => W.cell? ⟨gt, 0, none⟩ = some (.pointer (some ⟨g, 0, none⟩)) ∧ W.cell? ⟨gt, 1, none⟩ = some (.int .i64 t.file)) (Bl w1) (by kernel_rfl) hS0 ?_
  refine wpDet_take ?vA0 (Bl.stays w1) hS0w (i := 0) rfl (by kernel_rfl) (by kernel_rfl) (by kernel_rfl) (by kernel_rfl) (fun _ _ _ h => h) (Gives.value (by rfl) ?yA0) ?rA0
  case yA0 => (intro w' hSw; (try dsimp only at hSw); go_simp; try with_reducible rfl)
  (try simp only [Act.put, List.getElem_toArray, List.getElem_cons_zero, List.getElem_cons_succ, List.setIfInBounds_toArray, List.set_cons_zero, List.set_cons_succ])
  refine wpDet_take ?vA1 (Bl.stays w1) hS0w (i := 1) rfl (by kernel_rfl) (by kernel_rfl) (by kernel_rfl) (by kernel_rfl) (fun _ _ _ h => h) (Gives.value (by rfl) ?yA1) ?rA1
  case yA1 => (intro w' hSw; (try dsimp only at hSw); go_simp; try with_reducible rfl)
  (try simp only [Act.put, List.getElem_toArray, List.getElem_cons_zero, List.getElem_cons_succ, List.setIfInBounds_toArray, List.set_cons_zero, List.set_cons_succ])
  refine wpDet_take ?vA2 (Bl.stays w1) hS0w (i := 2) rfl (by kernel_rfl) (by kernel_rfl) (by kernel_rfl) (by kernel_rfl) (fun _ _ _ h => h) (Gives.value (by rfl) ?yA2) ?rA2
  case yA2 => (intro w' hSw; (try dsimp only at hSw); go_simp; try with_reducible rfl)
  (try simp only [Act.put, List.getElem_toArray, List.getElem_cons_zero, List.getElem_cons_succ, List.setIfInBounds_toArray, List.set_cons_zero, List.set_cons_succ])
  refine wpDet_take ?vA3 (Bl.stays w1) hS0w (i := 3) rfl (by kernel_rfl) (by kernel_rfl) (by kernel_rfl) (by kernel_rfl) (fun _ _ _ h => h) (Gives.value (by rfl) ?yA3) ?rA3
  case yA3 => (intro w' hSw; have hz0 := hSw.1; (try dsimp only at hSw); go_simp; try with_reducible rfl)
  (try simp only [Act.put, List.getElem_toArray, List.getElem_cons_zero, List.getElem_cons_succ, List.setIfInBounds_toArray, List.set_cons_zero, List.set_cons_succ])
  refine wpDet_take ?vA4 (Bl.stays w1) hS0w (i := 4) rfl (by kernel_rfl) (by kernel_rfl) (by kernel_rfl) (by kernel_rfl) (fun _ _ _ h => h) (Gives.value (by rfl) ?yA4) ?rA4
  case yA4 => (intro w' hSw; (try dsimp only at hSw); go_simp; try with_reducible rfl)
  (try simp only [Act.put, List.getElem_toArray, List.getElem_cons_zero, List.getElem_cons_succ, List.setIfInBounds_toArray, List.set_cons_zero, List.set_cons_succ])
  refine wpDet_take ?vA5 (Bl.stays w1) hS0w (i := 5) rfl (by kernel_rfl) (by kernel_rfl) (by kernel_rfl) (by kernel_rfl) (fun _ _ _ h => h) (Gives.value (by rfl) ?yA5) ?rA5
  case yA5 => (intro w' hSw; (try dsimp only at hSw); go_simp; try with_reducible rfl)
  (try simp only [Act.put, List.getElem_toArray, List.getElem_cons_zero, List.getElem_cons_succ, List.setIfInBounds_toArray, List.set_cons_zero, List.set_cons_succ])
  refine wpDet_take ?vA6 (Bl.stays w1) hS0w (i := 6) rfl (by kernel_rfl) (by kernel_rfl) (by kernel_rfl) (by kernel_rfl) (fun _ _ _ h => h) (Gives.value (by rfl) ?yA6) ?rA6
  case yA6 => (intro w' hSw; (try dsimp only at hSw); go_simp; try with_reducible rfl)
  (try simp only [Act.put, List.getElem_toArray, List.getElem_cons_zero, List.getElem_cons_succ, List.setIfInBounds_toArray, List.set_cons_zero, List.set_cons_succ])
  refine wpDet_take ?vA7 (Bl.stays w1) hS0w (i := 7) rfl (by kernel_rfl) (by kernel_rfl) (by kernel_rfl) (by kernel_rfl) (fun _ _ _ h => h) (Gives.value (by rfl) ?yA7) ?rA7
  case yA7 => (intro w' hSw; have hz0 := hSw.2; (try dsimp only at hSw); go_simp; try with_reducible rfl)
  (try simp only [Act.put, List.getElem_toArray, List.getElem_cons_zero, List.getElem_cons_succ, List.setIfInBounds_toArray, List.set_cons_zero, List.set_cons_succ])
  refine wpDet_take ?vA8 (Bl.stays w1) hS0w (i := 8) rfl (by kernel_rfl) (by kernel_rfl) (by kernel_rfl) (by kernel_rfl) (fun _ _ _ h => h) (Gives.value (by rfl) ?yA8) ?rA8
  case yA8 => (intro w' hSw; (try dsimp only at hSw); go_simp; try with_reducible rfl)
  (try simp only [Act.put, List.getElem_toArray, List.getElem_cons_zero, List.getElem_cons_succ, List.setIfInBounds_toArray, List.set_cons_zero, List.set_cons_succ])
  refine wpDet_ready (rs := [9]) (by kernel_rfl) (by simp) (AllDet.cons rfl (fun V hV K hK => ?_) AllDet.nil)
  rw [if_pos (by rfl)]
  have hbV := Bl.out' hV
  have hbV0 := hb1.trans (hbV.mono hb1.size)
  have hA := Append_gen V B own a g d m (h.below hbV0) hm.r0 hm.up hm.few (Nat.le_trans hB hbV0.size) t.file hi8 p1 n1 c1 _ (hO1.below hbV).rd (fun x e h0 => HRg.out x e h0) HN1.out HRoom.out hm.r1
  rw [act0 hm.left, gone0 hm.left, HTk.out] at hA
  refine wp_enterX 52 #[.pointer (some ⟨g, 0, none⟩), .int .i64 t.file, .slice p1 n1 c1] (by first | (go_simp; done) | (go_simp; rfl)) (fun v V' => v = .int .i64 0 ∧ ∃ own1 d1, DA V' B own1 a g d1 { m with f := upP m.f t.file { m.f t.file with told := (m.f t.file).told ++ sealL xs } } ∧ (∀ k, k < V.heap.size → own1 k = own k) ∧ Ch (fun k => k = g ∨ own k = mark a t.file) V V') (hA.mono fun e V' ⟨h1, h2⟩ => ⟨_, h1, rfl, h2⟩) ?_
  rintro v V1 ⟨rfl, own1, d1, h1, ho1, hc1⟩
  have hT1 := TB.ch ha hi8 (hT.below hbV0) hc1 ho1
  have hTO1 := ((hTO.below hbV0).ch hc1 (fun k hk _ => hk.not ha hi8) (fun k hk e => (ho1 k hk).trans e))
  have hpa1 := (hpa.below hbV0).ch0 hc1 (fun x e h0 => by intro e2; exact e2.elim (hda x e h0).2 (hda x e h0).1)
  have hcc := (Ch.of_below hbV0 (fun k => k = g ∨ own k = mark a t.file)).trans hc1
  have hoo : ∀ k, k < w0.heap.size → own1 k = own k := fun k hk => ho1 k (Nat.lt_of_lt_of_le hk hbV0.size)
  have c01 := hT1.blk.cell 0
  have c11 := hT1.blk.cell 1
  have hS1w : ∀ W, Bl V1 W → (W.cell? ⟨gt, 0, none⟩ = some (.pointer (some ⟨g, 0, none⟩)) ∧ W.cell? ⟨gt, 1, none⟩ = some (.int .i64 t.file)) := fun W hW => ⟨cell_below (Bl.out' hW) c01, cell_below (Bl.out' hW) c11⟩
  refine hK.out (Bl V1) _ _ (Bl.stays V1) (fun _ W h => hS1w W h) (Below.refl _ _) ?_
  clear hK K hV hA ho1 hc1 hbV hbV0 c01 c11
  (try simp only [Act.put, List.getElem_toArray, List.getElem_cons_zero, List.getElem_cons_succ, List.setIfInBounds_toArray, List.set_cons_zero, List.set_cons_succ])
  refine wpDet_ready (rs := [10]) (by kernel_rfl) (by simp) (AllDet.cons rfl (fun V hV K hK => ?_) AllDet.nil)
  rw [if_pos (by rfl)]
  refine wp_value (.int .i64 0) V (by first | (go_simp; done) | (go_simp; rfl)) ?_
  refine hK.out (Bl V1) _ _ (Bl.stays V1) (fun _ W h => hS1w W h) hV ?_
  clear hK K hV
  (try simp only [Act.put, List.getElem_toArray, List.getElem_cons_zero, List.getElem_cons_succ, List.setIfInBounds_toArray, List.set_cons_zero, List.set_cons_succ])
  refine wpDet_done (by kernel_rfl) (fun W2 hW2 => ?_) _
  have hbW := Bl.out' hW2
  have hT2 := hT1.below hbW
  have hD2 := h1.below hbW
  have hTO2 := hTO1.below hbW
  have hpa2 := hpa1.below hbW
  have hc2 := hcc.trans (Ch.of_below hbW _)
  have HOv : Hid (OwG 40 W2 Bv pr n cr vs) := by show OwG _ _ _ _ _ _ _; rw [HNn.out]; exact hTO2.rcs
  have HBv : Hid (Bv ≤ W2.heap.size) := Nat.le_trans hBv hc2.size
  have c5 := hT2.blk.cell 5
  have hS2w : ∀ W, Bl W2 W → W.cell? ⟨gt, 5, none⟩ = some (.slice pr n cr) := fun W hW => by rw [HNn.out]; exact cell_below (Bl.out' hW) c5
  have hS2 : Bl W2 W2.drew := (Below.refl _ _).drew
  clear hS1w hW2 hbW h1 hT1 hTO1 hpa1 hcc hS0w hS0 c5
  go_wp2_with fail
  refine wp_region_det [0, 1, 2, 3, 4, 5, 6] (fun W => W.cell? ⟨gt, 5, none⟩ = some (.slice pr n cr)) (Bl W2) (by kernel_rfl) hS2 ?_
  refine wpDet_take ?vB0 (Bl.stays W2) hS2w (i := 0) rfl (by kernel_rfl) (by kernel_rfl) (by kernel_rfl) (by kernel_rfl) (fun _ _ _ h => h) (Gives.value (by rfl) ?yB0) ?rB0
  case yB0 => (intro w' hSw; (try dsimp only at hSw); go_simp; try with_reducible rfl)
  (try simp only [Act.put, List.getElem_toArray, List.getElem_cons_zero, List.getElem_cons_succ, List.setIfInBounds_toArray, List.set_cons_zero, List.set_cons_succ])
  refine wpDet_take ?vB1 (Bl.stays W2) hS2w (i := 1) rfl (by kernel_rfl) (by kernel_rfl) (by kernel_rfl) (by kernel_rfl) (fun _ _ _ h => h) (Gives.value (by rfl) ?yB1) ?rB1
  case yB1 => (intro w' hSw; (try dsimp only at hSw); go_simp; try with_reducible rfl)
  (try simp only [Act.put, List.getElem_toArray, List.getElem_cons_zero, List.getElem_cons_succ, List.setIfInBounds_toArray, List.set_cons_zero, List.set_cons_succ])
  refine wpDet_take ?vB2 (Bl.stays W2) hS2w (i := 2) rfl (by kernel_rfl) (by kernel_rfl) (by kernel_rfl) (by kernel_rfl) (fun _ _ _ h => h) (Gives.value (by rfl) ?yB2) ?rB2
  case yB2 => (intro w' hSw; (try dsimp only at hSw); go_simp; try with_reducible rfl)
  (try simp only [Act.put, List.getElem_toArray, List.getElem_cons_zero, List.getElem_cons_succ, List.setIfInBounds_toArray, List.set_cons_zero, List.set_cons_succ])
  refine wpDet_take ?vB3 (Bl.stays W2) hS2w (i := 3) rfl (by kernel_rfl) (by kernel_rfl) (by kernel_rfl) (by kernel_rfl) (fun _ _ _ h => h) (Gives.value (by rfl) ?yB3) ?rB3
  case yB3 => (intro w' hSw; (try dsimp only at hSw); go_simp; try with_reducible rfl)
  (try simp only [Act.put, List.getElem_toArray, List.getElem_cons_zero, List.getElem_cons_succ, List.setIfInBounds_toArray, List.set_cons_zero, List.set_cons_succ])
  refine wpDet_take ?vB4 (Bl.stays W2) hS2w (i := 4) rfl (by kernel_rfl) (by kernel_rfl) (by kernel_rfl) (by kernel_rfl) (fun _ _ _ h => h) (Gives.value (by rfl) ?yB4) ?rB4
  case yB4 => (intro w' hSw; (try dsimp only at hSw); go_simp; try with_reducible rfl)
  (try simp only [Act.put, List.getElem_toArray, List.getElem_cons_zero, List.getElem_cons_succ, List.setIfInBounds_toArray, List.set_cons_zero, List.set_cons_succ])
  refine wpDet_take ?vB5 (Bl.stays W2) hS2w (i := 5) rfl (by kernel_rfl) (by kernel_rfl) (by kernel_rfl) (by kernel_rfl) (fun _ _ _ h => h) (Gives.value (by rfl) ?yB5) ?rB5
  case yB5 => (intro w' hSw; have hz0 := hSw; (try dsimp only at hSw); go_simp; try with_reducible rfl)
  (try simp only [Act.put, List.getElem_toArray, List.getElem_cons_zero, List.getElem_cons_succ, List.setIfInBounds_toArray, List.set_cons_zero, List.set_cons_succ])
  refine wpDet_take ?vB6 (Bl.stays W2) hS2w (i := 6) rfl (by kernel_rfl) (by kernel_rfl) (by kernel_rfl) (by kernel_rfl) (fun _ _ _ h => h) (Gives.value (by rfl) ?yB6) ?rB6
  case yB6 => (intro w' hSw; (try dsimp only at hSw); go_simp; try with_reducible rfl)
  (try simp only [Act.put, List.getElem_toArray, List.getElem_cons_zero, List.getElem_cons_succ, List.setIfInBounds_toArray, List.set_cons_zero, List.set_cons_succ])
  refine wpDet_ready (rs := [7]) (by kernel_rfl) (by simp) (AllDet.cons rfl (fun V hV K hK => ?_) AllDet.nil)
  rw [if_pos (by rfl)]
  have hC := bcloneO pa na ca xs V (hpa2.below (Bl.out' hV)) HNA.out
  refine wp_enterX 53 #[.slice pa na ca] (by first | (go_simp; done) | (go_simp; rfl)) (fun v V' => ∃ p' c', v = .slice p' na c' ∧ Ow .u8 5 V' V.heap.size p' na c' xs ∧ Below V.heap.size V V') (hC.mono fun e V' ⟨p', c', h1, h2, h3⟩ => ⟨_, h1, p', c', rfl, h2, h3⟩) ?_
  rintro v V' ⟨p7, c7, rfl, ho7, hb7⟩
  refine hK.out (fun W => Bl W2 W ∧ Ow .u8 5 W W2.heap.size p7 na c7 xs) _ _ (fun W W' h hb => ⟨Bl.stays W2 W W' h.1 hb, h.2.below hb⟩) (fun _ W h => hS2w W h.1) ⟨Bl.stays W2 V V' hV hb7, ho7.lower (Bl.out' hV).size⟩ ?_
  clear hK K hC hV ho7 hb7
  (try simp only [Act.put, List.getElem_toArray, List.getElem_cons_zero, List.getElem_cons_succ, List.setIfInBounds_toArray, List.set_cons_zero, List.set_cons_succ])
  refine wpDet_ready (rs := [8]) (by kernel_rfl) (by simp) (AllDet.cons rfl (fun V hV K hK => ?_) AllDet.nil)
  rw [if_pos (by rfl)]
  refine wp_value (.slice (some ⟨V.heap.size, 0, none⟩) 1 1) (V.alloc (.cells #[.slice p7 na c7] 40)) (by first | (go_simp; done) | (go_simp; rfl)) ?_
  have hba := below_alloc V (.cells #[.slice p7 na c7] 40)
  have hA8 := At.new 40 V #[.slice p7 na c7]
  obtain ⟨gs, hgs⟩ : ∃ z, z = V.heap.size := ⟨_, rfl⟩
  rw [← hgs] at hA8 ⊢
  refine hK.out (fun W => Bl W2 W ∧ Ow .u8 5 W W2.heap.size p7 na c7 xs ∧ W.cell? ⟨gs, 0, none⟩ = some (.slice p7 na c7)) _ _ (fun W W' h hb => ⟨Bl.stays W2 W W' h.1 hb, h.2.1.below hb, cell_below hb h.2.2⟩) (fun _ W h => hS2w W h.1) ⟨Bl.stays W2 V _ hV.1 hba, hV.2.below hba, hA8.cell 0⟩ ?_
  clear hK K hV hba hA8 hgs
  (try simp only [Act.put, List.getElem_toArray, List.getElem_cons_zero, List.getElem_cons_succ, List.setIfInBounds_toArray, List.set_cons_zero, List.set_cons_succ])
  refine wpDet_ready (rs := [9]) (by kernel_rfl) (by simp) (AllDet.cons rfl (fun V hV K hK => ?_) AllDet.nil)
  rw [if_pos (by rfl)]
  have hbV := Bl.out' hV.1
  obtain ⟨p8, c8, V8, hrun, hO8, hg8, hk8⟩ := run_appG (P := Tryz.prog) (d := 1) V 41 41 40 i1 (.slice none 0 0) 24 Tryz.underlying41 hi1 hy0 hy1 hy2 rfl (HOv.out.below hbV) hV.2.2 rfl HB1.out HB2.out (Nat.le_trans HBv.out hbV.size)
  refine wp_app _ _ 41 rfl (.slice pr n cr) (.slice (some ⟨gs, 0, none⟩) 1 1) rfl rfl (.slice p8 (n + 1) c8) V8 hrun ?_
  have hP := put_mid ha HBv.out hD2 hTO2 hT2.blk hbV HNn.out hV.2.1 hO8 hg8 hk8
  have hA88 := hP.2.2.1
  refine hK.out (Bl V8) _ _ (Bl.stays V8) (fun _ W h => cell_below (Bl.out' h) (hA88.cell 5)) (Below.refl _ _) ?_
  clear hK K hV hrun hg8 hk8 hO8 hbV
  (try simp only [Act.put, List.getElem_toArray, List.getElem_cons_zero, List.getElem_cons_succ, List.setIfInBounds_toArray, List.set_cons_zero, List.set_cons_succ])
  refine wpDet_ready (rs := [10]) (by kernel_rfl) (by simp) (AllDet.cons rfl (fun V hV K hK => ?_) AllDet.nil)
  rw [if_pos (by rfl)]
  refine wp_value (.pointer (some ⟨gt, 0, none⟩)) V (by first | (go_simp; done) | (go_simp; rfl)) ?_
  refine hK.out (Bl V8) _ _ (Bl.stays V8) (no_lean (by kernel_rfl)) hV ?_
  clear hK K hV
  (try simp only [Act.put, List.getElem_toArray, List.getElem_cons_zero, List.getElem_cons_succ, List.setIfInBounds_toArray, List.set_cons_zero, List.set_cons_succ])
  refine wpDet_ready (rs := [11]) (by kernel_rfl) (by simp) (AllDet.cons rfl (fun V hV K hK => ?_) AllDet.nil)
  rw [if_pos (by rfl)]
  refine wp_value (.pointer (some ⟨gt, 3, none⟩)) V (by first | (go_simp; done) | (go_simp; rfl)) ?_
  refine hK.out (Bl V8) _ _ (Bl.stays V8) (no_lean (by kernel_rfl)) hV ?_
  clear hK K hV
  (try simp only [Act.put, List.getElem_toArray, List.getElem_cons_zero, List.getElem_cons_succ, List.setIfInBounds_toArray, List.set_cons_zero, List.set_cons_succ])
  refine wpDet_ready (rs := [12]) (by kernel_rfl) (by simp) (AllDet.cons rfl (fun V hV K hK => ?_) AllDet.nil)
  rw [if_pos (by rfl)]
  refine wp_value (.pointer (some ⟨gt, 5, none⟩)) V (by first | (go_simp; done) | (go_simp; rfl)) ?_
  refine hK.out (Bl V8) _ _ (Bl.stays V8) (no_lean (by kernel_rfl)) hV ?_
  clear hK K hV
  (try simp only [Act.put, List.getElem_toArray, List.getElem_cons_zero, List.getElem_cons_succ, List.setIfInBounds_toArray, List.set_cons_zero, List.set_cons_succ])
  refine wpDet_ready (rs := [13]) (by kernel_rfl) (by simp) (AllDet.cons rfl (fun V hV K hK => ?_) AllDet.nil)
  rw [if_pos (by rfl)]
  have hAV := hA88.below (Bl.out' hV)
  refine wp_store_slice _ _ _ rfl gt 5 p8 (n + 1) c8 _ rfl rfl sizeSlV (hAV.cell 5) (hAV.free 5) ?_
  have hE : Ex gt V8 (V.setCell ⟨gt, 5, none⟩ (.slice p8 (n + 1) c8)) := (Ex.of_below (Bl.out' hV)).trans ((Ex.refl gt V).setCell 5 _)
  have hAs := heap_setCell_same V gt 5 _ _ (.slice p8 (n + 1) c8) hAV
  refine hK.out (fun W => Ex gt V8 W ∧ At 81 W gt #[.pointer (some ⟨g, 0, none⟩), .int .i64 t.file, .int .i64 t.kept, .int .i64 t.r.gen, .slice pb nb cb, .slice p8 (n + 1) c8]) _ _ (fun W W' h hb => ⟨h.1.trans (Ex.of_below hb), h.2.below hb⟩) (no_lean (by kernel_rfl)) ⟨hE, hAs⟩ ?_
  clear hK K hV hAV hE hAs
  (try simp only [Act.put, List.getElem_toArray, List.getElem_cons_zero, List.getElem_cons_succ, List.setIfInBounds_toArray, List.set_cons_zero, List.set_cons_succ])
  refine wpDet_done (by kernel_rfl) (fun W9 hW9 => ?_) _
  obtain ⟨hE9, hA9⟩ := hW9
  obtain ⟨hD8, hTO8, _, hc8⟩ := hP
  have hot : farO own1 W2.heap.size V8.heap.size gt = farM := (farO_low hT2.blk.lt).trans hT2.fg.1
  have hD9 := hD8.exF ha hE9 hot hT.fg.2
  have hTO9 := hTO8.ch (Ch.of_ex hE9) (fun k _ hk => hk) (fun _ _ e => e)
  have hT9 := hTO9.tb (by
    show At 81 W9 gt #[.pointer (some ⟨g, 0, none⟩), .int .i64 t.file, .int .i64 t.kept, .int .i64 t.r.gen, .slice pb nb cb, .slice p8 (t.r.recs ++ [xs]).length c8]
    rw [List.length_append, ← HNn.out]
    exact hA9) ⟨hot, hT.fg.2⟩
  have hcF : Ch (fun k => k = g ∨ k = gt ∨ own k = mark a t.file ∨ ∃ x, pr = some x ∧ 0 < cr ∧ k = x.block) w0 W9 := ((hc2.mono (T := fun k => k = g ∨ k = gt ∨ own k = mark a t.file ∨ ∃ x, pr = some x ∧ 0 < cr ∧ k = x.block) (fun k _ e => e.elim Or.inl fun e => Or.inr (Or.inr (Or.inl e)))).then hc8 (fun k _ e => Or.inr (Or.inr (Or.inr e)))).then (Ch.of_ex hE9) (fun k _ e => Or.inr (Or.inl e))
  have hoF : ∀ k, k < w0.heap.size → farO own1 W2.heap.size V8.heap.size k = own k := fun k hk => (farO_low (Nat.lt_of_lt_of_le hk hc2.size)).trans (hoo k hk)
  clear hS2w hS2 hi1 hy0 hy1 hy2 HOv
  go_wp2_with fail
  go_ret
  exact ⟨rfl, _, d1, p8, c8, p7, c7, hD9, hT9, hTO9, hoF, hcF⟩

end Go.Proofs.YtpjhadaiodnnaaaGreat.M
end

section
namespace Go.Proofs.YtpjhadaiodnnaaaGreat.M
open Go.ChangeShapes Go.WideShapes Go.ChangeAt Go.RowKit
set_option linter.unusedSimpArgs false

set_option maxRecDepth 20000 in
set_option maxHeartbeats 2000000 in
theorem TAt_ok (w : World) (gt g : Nat) (b o n c i : Nat) (hi : i < n) (h0 : w.cell? ⟨gt, 0, none⟩ = some (.pointer (some ⟨g, 0, none⟩))) (h5 : w.cell? ⟨gt, 5, none⟩ = some (.slice (some ⟨b, o, none⟩) n c)) (q : Option Addr) (m d : Nat) (hq : w.cell? ⟨b, o + i, none⟩ = some (.slice q m d)) (xs : List Int) (hr : Rd .u8 w q m d xs) (hm : m ≤ 1099511627776) :
    Calls Tryz.prog 56 #[.pointer (some ⟨gt, 0, none⟩), .int .i64 i] w fun e w' => (∃ p' c', e = .returned (.tuple #[.slice p' m c', .bool true]) ∧ Ow .u8 5 w' w.heap.size p' m c' xs) ∧ Below w.heap.size w w' := by
  have hL := TLen_ok w gt g _ n c h0 h5
  have k1 : decide ((i : Int) < 0) = false := decide_eq_false (by omega)
  have k2 : decide ((n : Int) ≤ (i : Int)) = false := decide_eq_false (by omega)
  go_enter Tryz.func56, Tryz.ntmps56
  go_wp2_with fail
  refine hL.mono ?_
  rintro e w1 ⟨rfl, hb1⟩
  clear hL
  have h51 := cell_below hb1 h5
  have hq1 := cell_below hb1 hq
  have hC := bcloneO q m d xs w1 (hr.below hb1) hm
  clear h5 hq h0
  go_wp2_with fail
  refine hC.mono ?_
  rintro e w2 ⟨p', c', rfl, hO, hb2⟩
  clear hC
  go_wp2_with fail
  go_ret2
  exact ⟨⟨p', c', rfl, hO.lower hb1.size⟩, hb1.trans (hb2.mono hb1.size)⟩

end Go.Proofs.YtpjhadaiodnnaaaGreat.M
end

section
namespace Go.Proofs.YtpjhadaiodnnaaaGreat.M
open Go.ChangeShapes Go.WideShapes Go.ChangeAt Go.RowKit
set_option linter.unusedSimpArgs false

/-- A tape that no call made: nil, or a plain one. -/
def TNo (w : World) (v : Option Addr) : Prop := v = none ∨ ∃ gt, v = some ⟨gt, 0, none⟩ ∧ w.cell? ⟨gt, 0, none⟩ = some (.pointer none)

theorem TNo.below {w w' : World} {v : Option Addr} (h : TNo w v) (hb : Below w.heap.size w w') : TNo w' v := h.imp id fun ⟨gt, e, hc⟩ => ⟨gt, e, cell_below hb hc⟩

set_option maxRecDepth 20000 in
theorem tmade_no (w : World) (v : Option Addr) (h : TNo w v) : Calls Tryz.prog 35 #[.pointer v] w fun e w' => e = .returned (.bool false) ∧ w' = w := by
  rcases h with rfl | ⟨gt, rfl, h0⟩
  · go_enter Tryz.func35, Tryz.ntmps35
    go_wp2_with fail
    go_ret
    exact ⟨rfl, rfl⟩
  · go_enter Tryz.func35, Tryz.ntmps35
    go_wp2_with fail
    go_ret
    exact ⟨rfl, rfl⟩

set_option maxRecDepth 20000 in
theorem TLen_no (w : World) (v : Option Addr) (h : TNo w v) : Calls Tryz.prog 30 #[.pointer v] w fun e w' => e = .returned (.int .i64 0) ∧ w' = w := by
  have hM := tmade_no w v h
  go_enter Tryz.func30, Tryz.ntmps30
  go_wp2_with fail
  refine hM.mono ?_
  rintro e w0 ⟨rfl, hw0⟩
  subst hw0
  clear hM
  go_wp2_with fail
  go_ret
  exact ⟨rfl, rfl⟩

set_option maxRecDepth 20000 in
theorem TKept_no (w : World) (v : Option Addr) (h : TNo w v) : Calls Tryz.prog 26 #[.pointer v] w fun e w' => e = .returned (.int .i64 0) ∧ w' = w := by
  have hM := tmade_no w v h
  go_enter Tryz.func26, Tryz.ntmps26
  go_wp2_with fail
  refine hM.mono ?_
  rintro e w0 ⟨rfl, hw0⟩
  subst hw0
  clear hM
  go_wp2_with fail
  go_ret
  exact ⟨rfl, rfl⟩

set_option maxRecDepth 20000 in
theorem TBase_no (w : World) (v : Option Addr) (h : TNo w v) : Calls Tryz.prog 29 #[.pointer v] w fun e w' => e = .returned (.slice none 0 0) ∧ w' = w := by
  have hM := tmade_no w v h
  go_enter Tryz.func29, Tryz.ntmps29
  go_wp2_with fail
  refine hM.mono ?_
  rintro e w0 ⟨rfl, hw0⟩
  subst hw0
  clear hM
  go_wp2_with fail
  go_ret
  exact ⟨rfl, rfl⟩

set_option maxRecDepth 20000 in
theorem TSync_no (w : World) (v : Option Addr) (h : TNo w v) : Calls Tryz.prog 12 #[.pointer v] w fun e w' => e = .returned (.int .i64 6) ∧ w' = w := by
  have hM := tmade_no w v h
  go_enter Tryz.func12, Tryz.ntmps12
  go_wp2_with fail
  refine hM.mono ?_
  rintro e w0 ⟨rfl, hw0⟩
  subst hw0
  clear hM
  go_wp2_with fail
  go_ret
  exact ⟨rfl, rfl⟩

set_option maxRecDepth 20000 in
theorem TPut_no (w : World) (v : Option Addr) (h : TNo w v) (p : Option Addr) (n c : Nat) : Calls Tryz.prog 21 #[.pointer v, .slice p n c] w fun e w' => e = .returned (.int .i64 6) ∧ w' = w := by
  have hM := tmade_no w v h
  go_enter Tryz.func21, Tryz.ntmps21
  go_wp2_with fail
  refine hM.mono ?_
  rintro e w0 ⟨rfl, hw0⟩
  subst hw0
  clear hM
  go_wp2_with fail
  go_ret
  exact ⟨rfl, rfl⟩

set_option maxRecDepth 20000 in
theorem TSave_no (w : World) (v : Option Addr) (h : TNo w v) (p : Option Addr) (n c : Nat) (q : Option Addr) (n' c' : Nat) : Calls Tryz.prog 14 #[.pointer v, .slice p n c, .slice q n' c'] w fun e w' => e = .returned (.int .i64 6) ∧ w' = w := by
  have hM := tmade_no w v h
  go_enter Tryz.func14, Tryz.ntmps14
  go_wp2_with fail
  refine hM.mono ?_
  rintro e w0 ⟨rfl, hw0⟩
  subst hw0
  clear hM
  go_wp2_with fail
  go_ret
  exact ⟨rfl, rfl⟩

set_option maxRecDepth 20000 in
theorem TAt_no (w : World) (v : Option Addr) (h : TNo w v) (i : Int) : Calls Tryz.prog 56 #[.pointer v, .int .i64 i] w fun e w' => e = .returned (.tuple #[.slice none 0 0, .bool false]) ∧ w' = w := by
  by_cases hi : i < 0
  · have k1 : decide (i < 0) = true := decide_eq_true hi
    go_enter Tryz.func56, Tryz.ntmps56
    go_wp2_with fail
    go_ret2
    exact ⟨rfl, rfl⟩
  · have k1 : decide (i < 0) = false := decide_eq_false hi
    have k2 : decide (0 ≤ i) = true := decide_eq_true (by omega)
    have hL := TLen_no w v h
    go_enter Tryz.func56, Tryz.ntmps56
    go_wp2_with fail
    refine hL.mono ?_
    rintro e w0 ⟨rfl, hw0⟩
    subst hw0
    clear hL
    go_wp2_with fail
    go_ret2
    exact ⟨rfl, rfl⟩

end Go.Proofs.YtpjhadaiodnnaaaGreat.M
end

section
namespace Go.Proofs.YtpjhadaiodnnaaaGreat.M
open Go.ChangeShapes Go.WideShapes Go.ChangeAt Go.RowKit
set_option linter.unusedSimpArgs false

/-- A disk that no call made: none, or one without room. -/
def Nob (v : Value) (w : World) : Prop := v = .pointer none ∨ ∃ g, v = .pointer (some ⟨g, 0, none⟩) ∧ w.cell? ⟨g, 0, none⟩ = some (.int .i64 0)

theorem Nob.below {v : Value} {w w' : World} (h : Nob v w) (hb : Below w.heap.size w w') : Nob v w' := by
  rcases h with h | ⟨g, h, hc⟩
  · exact Or.inl h
  · exact Or.inr ⟨g, h, by rw [hb.cell (p := ⟨g, 0, none⟩) (World.block_lt_of_cell? _ _ hc)]; exact hc⟩

theorem made_nob (v : Value) (w : World) (h : Nob v w) : Calls Tryz.prog 54 #[v] w fun e w' => e = .returned (.bool false) ∧ w' = w := by
  rcases h with rfl | ⟨g, rfl, hc⟩
  · exact made_nil w
  · exact made_zero w g hc

set_option maxRecDepth 20000 in
theorem ready_nob (v : Value) (w : World) (h : Nob v w) : Calls Tryz.prog 47 #[v] w fun e w' => e = .returned (.int .i64 6) ∧ w' = w := by
  have hM := made_nob v w h
  clear h
  go_enter Tryz.func47, Tryz.ntmps47
  go_wp2_with fail
  refine hM.mono ?_
  rintro e w1 ⟨rfl, rfl⟩
  go_wp2_with fail
  go_ret
  exact ⟨rfl, rfl⟩

set_option maxRecDepth 20000 in
theorem file_nob (v : Value) (w : World) (h : Nob v w) (i : Int) : Calls Tryz.prog 57 #[v, .int .i64 i] w fun e w' => e = .returned (.tuple #[.pointer none, .int .i64 6]) ∧ w' = w := by
  have hR := ready_nob v w h
  clear h
  go_enter Tryz.func57, Tryz.ntmps57
  go_wp2_with fail
  refine hR.mono ?_
  rintro e w1 ⟨rfl, rfl⟩
  go_wp2_with fail
  go_ret2
  exact ⟨rfl, rfl⟩

set_option maxRecDepth 20000 in
theorem Read_nob (v : Value) (w : World) (h : Nob v w) (i : Int) : Calls Tryz.prog 31 #[v, .int .i64 i] w fun e w' => e = .returned (.tuple #[.slice none 0 0, .int .i64 6]) ∧ w' = w := by
  have hF := file_nob v w h i
  clear h
  go_enter Tryz.func31, Tryz.ntmps31
  go_wp2_with fail
  refine hF.mono ?_
  rintro e w1 ⟨rfl, rfl⟩
  go_wp2_with fail
  go_ret2
  exact ⟨rfl, rfl⟩

set_option maxRecDepth 20000 in
set_option maxHeartbeats 2000000 in
theorem TOpen_no (v : Option Addr) (w : World) (h : Nob (.pointer v) w) : Calls Tryz.prog 8 #[.pointer v] w fun e w' => e = .returned (.tuple #[.pointer none, .int .i64 6]) ∧ Below w.heap.size w w' := by
  have hba := below_alloc w (.cells #[.pointer v, .int .i64 1, .int .i64 0, .int .i64 0, .slice none 0 0, .slice none 0 0] 81)
  have hR := Read_nob (.pointer v) _ (h.below hba) 0
  clear h
  go_enter Tryz.func8, Tryz.ntmps8
  go_wp2_with fail
  go_loopw [15] (fun ix wr => ix = .int .i64 0 ∧ wr = w.alloc (.cells #[.pointer v, .int .i64 1, .int .i64 0, .int .i64 0, .slice none 0 0, .slice none 0 0] 81)) (fun _ _ => 0)
  case atStart => exact ⟨rfl, rfl⟩
  case round =>
    obtain ⟨rfl, rfl⟩ := hrel
    go_wp2_with fail
    refine hR.mono ?_
    rintro e w1 ⟨rfl, hw1⟩
    subst hw1
    clear hR
    go_wp2_with fail
    go_ret2
    exact ⟨rfl, hba⟩

end Go.Proofs.YtpjhadaiodnnaaaGreat.M
end

section
namespace Go.Proofs.YtpjhadaiodnnaaaGreat.M
open Go.ChangeShapes Go.WideShapes Go.ChangeAt Go.RowKit
set_option linter.unusedSimpArgs false

/-- Which file counts, its reel, and whether it is whole: of the first k files, by what lies in them. -/
def scT (f : Nat → List Int) : Nat → Nat × PR × Bool
  | 0 => (1, .z0, false)
  | k + 1 => if (scT f k).2.1.gen < (ldR (f k)).1.gen then (k, (ldR (f k)).1, (ldR (f k)).2) else scT f k

/-- A tape that is being opened, in block gt, all its memory made since w. -/
structure OI (w wr : World) (g gt : Nat) (file kept : Nat) (r : PR) (pb : Option Addr) (nb cb : Nat) (pr : Option Addr) (cr : Nat) (vs : List Value) : Prop where
  hb : Below w.heap.size w wr
  blk : At 81 wr gt #[.pointer (some ⟨g, 0, none⟩), .int .i64 file, .int .i64 kept, .int .i64 r.gen, .slice pb nb cb, .slice pr r.recs.length cr]
  bas : Ow .u8 5 wr (w.heap.size + 1) pb nb cb r.base
  rcs : OwG 40 wr (w.heap.size + 1) pr r.recs.length cr vs
  sls : Slo 5 wr (w.heap.size + 1) vs r.recs
  ge : gt = w.heap.size

theorem OI.below {w wr wr' : World} {g gt file kept : Nat} {r : PR} {pb : Option Addr} {nb cb : Nat} {pr : Option Addr} {cr : Nat} {vs : List Value} (h : OI w wr g gt file kept r pb nb cb pr cr vs) (hb : Below wr.heap.size wr wr') : OI w wr' g gt file kept r pb nb cb pr cr vs :=
  ⟨h.hb.trans (hb.mono h.hb.size), h.blk.below hb, h.bas.below hb, h.rcs.below hb, h.sls.below hb, h.ge⟩

theorem Slo.chX {u : TypeId} {w w' : World} {B g : Nat} {vs : List Value} {xss : List (List Int)} (h : Slo u w B vs xss) (he : Ex g w w') (hg : g < B) : Slo u w' B vs xss := h.exn he hg

/-- The tape's own words change. -/
theorem OI.words {w w4 w5 : World} {g gt file kept : Nat} {r : PR} {pb : Option Addr} {nb cb : Nat} {pr : Option Addr} {cr : Nat} {vs : List Value} (hb : Below w.heap.size w w4) (hge : gt = w.heap.size) (he : Ex gt w4 w5) (hl : gt < w4.heap.size)
    (ha : At 81 w5 gt #[.pointer (some ⟨g, 0, none⟩), .int .i64 file, .int .i64 kept, .int .i64 r.gen, .slice pb nb cb, .slice pr r.recs.length cr])
    (hO : Ow .u8 5 w4 (w.heap.size + 1) pb nb cb r.base) (hV : OwG 40 w4 (w.heap.size + 1) pr r.recs.length cr vs) (hS : Slo 5 w4 (w.heap.size + 1) vs r.recs) : OI w w5 g gt file kept r pb nb cb pr cr vs := by
  have hc := Ch.of_ex he
  refine ⟨hb.trans (he.below (by omega) hl), ha, hO.chC hc (fun x e h0 => ?_), hV.exn he (fun x e h0 => ?_), hS.exn he (by omega), hge⟩
  · have := (hO.ltC x e h0).1
    show ¬ x.block = gt
    omega
  · have := (hV.ltC x e h0).1
    omega

/-- The tape takes over a reel that was loaded. -/
theorem OI.load {w w4 : World} {g gt file kept : Nat} {r : PR} {pb : Option Addr} {nb cb : Nat} {pr : Option Addr} {cr : Nat} {vs : List Value} (h : OI w w4 g gt file kept r pb nb cb pr cr vs) (k : Nat) (r2 : PR) (B2 : Nat) (hB2 : w.heap.size < B2) {pb2 : Option Addr} {nb2 cb2 : Nat} {pr2 : Option Addr} {cr2 : Nat} {vs2 : List Value}
    (hO : Ow .u8 5 w4 B2 pb2 nb2 cb2 r2.base) (hV : OwG 40 w4 B2 pr2 r2.recs.length cr2 vs2) (hS : Slo 5 w4 B2 vs2 r2.recs) :
    OI w ((((w4.setCell ⟨gt, 3, none⟩ (.int .i64 r2.gen)).setCell ⟨gt, 4, none⟩ (.slice pb2 nb2 cb2)).setCell ⟨gt, 5, none⟩ (.slice pr2 r2.recs.length cr2)).setCell ⟨gt, 1, none⟩ (.int .i64 k)) g gt k kept r2 pb2 nb2 cb2 pr2 cr2 vs2 :=
  OI.words h.hb h.ge ((((Ex.refl gt w4).setCell 3 _).setCell 4 _ |>.setCell 5 _).setCell 1 _) h.blk.lt (heap_setCell_same _ gt 1 _ _ _ (At.put345 h.blk _ _ _)) (hO.lower hB2) (hV.lowerB hB2) (hS.lower hB2)

/-- How many last, when all was loaded. -/
theorem OI.keep {w w4 : World} {g gt file kept : Nat} {r : PR} {pb : Option Addr} {nb cb : Nat} {pr : Option Addr} {cr : Nat} {vs : List Value} (h : OI w w4 g gt file kept r pb nb cb pr cr vs) (k : Nat) :
    OI w (w4.setCell ⟨gt, 2, none⟩ (.int .i64 k)) g gt file k r pb nb cb pr cr vs :=
  OI.words h.hb h.ge ((Ex.refl gt w4).setCell 2 _) h.blk.lt (heap_setCell_same _ gt 2 _ _ _ h.blk) h.bas h.rcs h.sls

theorem Rd.ltb {k : IntKind} {w : World} {p : Option Addr} {n c : Nat} {xs : List Int} (h : Rd k w p n c xs) : ∀ x, p = some x → 0 < n → x.block < w.heap.size := fun x e h0 => by
  obtain ⟨b, o, e2, hcl⟩ := h.cells h0
  rw [e] at e2
  cases e2
  exact World.block_lt_of_cell? _ _ (hcl 0 h0)

theorem RdV.ltb {w : World} {p : Option Addr} {n c : Nat} {vs : List Value} (h : RdV w p n c vs) : ∀ x, p = some x → 0 < n → x.block < w.heap.size := fun x e h0 => by
  obtain ⟨b, o, e2, hcl⟩ := h.cells h0
  rw [e] at e2
  cases e2
  exact World.block_lt_of_cell? _ _ (hcl 0 h0)

theorem Sls.ltb {w : World} {vs : List Value} {xss : List (List Int)} (h : Sls w vs xss) : ∀ i q m d, i < vs.length → vs.getD i undef = .slice q m d → ∀ x, q = some x → 0 < m → x.block < w.heap.size := fun i q m d hi e x ex h0 => by
  obtain ⟨q', m', d', e', hr⟩ := h.2 i hi
  rw [e] at e'
  cases e'
  exact hr.ltb x ex h0

/-- A tape that was opened, all its blocks marked as another's: its memory is its own. -/
theorem OI.to {w w1 : World} {own : Nat → Nat} {g gt file kept : Nat} {r : PR} {pb : Option Addr} {nb cb : Nat} {pr : Option Addr} {cr : Nat} {vs : List Value} (h : OI w w1 g gt file kept r pb nb cb pr cr vs) (hg : g < w.heap.size) : TO w1 (farO own w.heap.size w1.heap.size) w.heap.size g gt ⟨file, kept, r⟩ pb nb cb pr cr vs := by
  have hF : ∀ k, w.heap.size + 1 ≤ k ∧ k < w1.heap.size → Fre (farO own w.heap.size w1.heap.size) g k ∧ k ≠ gt := fun k h1 => ⟨⟨farO_in (by omega) h1.2, by omega⟩, by have := h.ge; omega⟩
  refine ⟨h.bas.lower (Nat.le_succ _), fun x e h0 => hF _ (h.bas.ltC x e h0), h.rcs.lowerB (Nat.le_succ _), fun x e h0 => hF _ (h.rcs.ltC x e h0), h.sls.lower (Nat.le_succ _), fun i q m d hi e x ex h0 => ?_⟩
  obtain ⟨q', m', d', e', hr⟩ := h.sls.2 i hi
  rw [e] at e'
  cases e'
  exact hF _ (hr.ltC x ex h0)

theorem OI.tb {w w1 : World} {own : Nat → Nat} {g gt file kept : Nat} {r : PR} {pb : Option Addr} {nb cb : Nat} {pr : Option Addr} {cr : Nat} {vs : List Value} (h : OI w w1 g gt file kept r pb nb cb pr cr vs) (hg : g < w.heap.size) : TB w1 (farO own w.heap.size w1.heap.size) g gt ⟨file, kept, r⟩ pb nb cb pr cr vs :=
  (h.to hg).tb h.blk ⟨farO_in (by rw [h.ge]; exact Nat.le_refl _) h.blk.lt, by have := h.ge; omega⟩

end Go.Proofs.YtpjhadaiodnnaaaGreat.M
end

section
namespace Go.Proofs.YtpjhadaiodnnaaaGreat.M
open Go.RowKit

section
variable {P : Program} {ops : Array Oper} {Q : Exit → Act → World → Prop} {md : Region.Mode} {S0 : World → Prop}

/-- Number 'k' must have come up ahead of number 'j'. -/
def bef (md : Region.Mode) (ops : Array Oper) : Nat → Nat → Nat → Bool
  | 0, _, _ => false
  | f + 1, j, k => ((ops[j]?).map fun o => o.after.any fun e => Region.binds md e && (e.on == k || bef md ops f e.on k)).getD false

/-- Somebody of 'need' may come up behind number 'j'. -/
def leanT (md : Region.Mode) (ops : Array Oper) (need : List Nat) (j : Nat) : Bool := need.any fun k => j != k && !bef md ops ops.size j k

/-- What has come up has come up behind all that it is bound to. -/
def Closed (md : Region.Mode) (ops : Array Oper) (listed : Array Bool) : Prop := ∀ j o, listed.getD j false = true → ops[j]? = some o → ∀ e ∈ o.after, Region.binds md e = true → listed.getD e.on false = true

def closedB (md : Region.Mode) (ops : Array Oper) (listed : Array Bool) : Bool := (List.range ops.size).all fun j => !listed.getD j false || ((ops[j]?).map fun o => o.after.all fun e => !Region.binds md e || listed.getD e.on false).getD true

theorem closed_of {listed : Array Bool} (h : closedB md ops listed = true) : Closed md ops listed := fun j o hl ho e he hb => by
  unfold closedB at h
  rw [List.all_eq_true] at h
  have h1 := h j (List.mem_range.2 (Array.getElem?_eq_some_iff.1 ho).1)
  rw [hl, ho] at h1
  simp only [Bool.not_true, Bool.false_or, Option.map_some, Option.getD_some, Array.all_eq_true_iff_forall_mem, Bool.or_eq_true, Bool.not_eq_true'] at h1
  rcases h1 e he with h2 | h2
  · rw [h2] at hb; cases hb
  · exact h2

theorem Closed.step {listed : Array Bool} {j : Nat} (h : Closed md ops listed) (hj : j ∈ Region.ready md ops listed) : Closed md ops (listed.setIfInBounds j true) := fun k o hl ho e he hb => by
  obtain ⟨_, oj, hoj, hall⟩ := mem_ready.1 hj
  by_cases hjk : j = k
  · subst hjk
    rw [hoj] at ho
    cases ho
    exact getD_set_true (hall e he hb)
  · rw [getD_set_ne false hjk] at hl
    exact getD_set_true (h k o hl ho e he hb)

theorem not_both {listed : Array Bool} {i : Nat} (h : listed.getD i true = false) (k : listed.getD i false = true) : False := by
  rcases Nat.lt_or_ge i listed.size with h' | h'
  · simp [h'] at h k
    rw [h] at k
    cases k
  · simp [Array.getElem?_eq_none h'] at k

theorem bef_listed {listed : Array Bool} (hc : Closed md ops listed) : ∀ (f j k : Nat) (o : Oper), ops[j]? = some o → (∀ e ∈ o.after, Region.binds md e = true → listed.getD e.on false = true) → bef md ops f j k = true → listed.getD k false = true := by
  intro f
  induction f with
  | zero => intro j k o _ _ h; cases h
  | succ f ih =>
    intro j k o ho hall h
    unfold bef at h
    rw [ho] at h
    simp only [Option.map_some, Option.getD_some, Array.any_eq_true, Bool.and_eq_true, Bool.or_eq_true, beq_iff_eq] at h
    obtain ⟨x, hx, hb, h⟩ := h
    have he := Array.getElem_mem hx
    rcases h with h | h
    · rw [← h]; exact hall _ he hb
    · have hl := hall _ he hb
      cases ho2 : ops[(o.after[x]).on]? with
      | none =>
        cases f with
        | zero => cases h
        | succ f => unfold bef at h; rw [ho2] at h; cases h
      | some o2 => exact ih _ k o2 ho2 (fun e he2 hb2 => hc _ o2 hl ho2 e he2 hb2) h

theorem leanT_of {need : List Nat} {i j : Nat} {listed : Array Bool} (hn : need.contains i = true) (hc : Closed md ops listed) (hj : j ∈ Region.ready md ops listed) (hi : i ∈ Region.ready md ops listed) (hji : j ≠ i) : leanT md ops need j = true := by
  obtain ⟨_, oj, hoj, hall⟩ := mem_ready.1 hj
  unfold leanT
  rw [List.any_eq_true]
  refine ⟨i, by simpa using hn, ?_⟩
  simp only [Bool.and_eq_true, bne_iff_ne, Bool.not_eq_true']
  refine ⟨hji, ?_⟩
  cases hb : bef md ops ops.size j i with
  | false => rfl
  | true => exact (not_both (mem_ready.1 hi).1 (bef_listed hc _ _ _ oj hoj hall hb)).elim

theorem no_leanT {need : List Nat} {i : Nat} {R : Prop} (h : leanT md ops need i = false) (k : leanT md ops need i = true) : R := by
  rw [h] at k
  cases k

/-- Whatever order is drawn from here on, from every world that meets S: what is carried out leaves another such condition, which stays, and says at least S0 where somebody of 'need' may still come up. -/
def wpDyn (P : Program) (md : Region.Mode) (ops : Array Oper) (Q : Exit → Act → World → Prop) (need : List Nat) (S0 : World → Prop) : Nat → Array Bool → Act → (World → Prop) → Prop
  | 0, listed, a, S => Region.ready md ops listed = [] ∧ ∀ w, S w → Q .normal a w
  | fuel + 1, listed, a, S =>
    (Region.ready md ops listed = [] → ∀ w, S w → Q .normal a w) ∧
    ∀ i ∈ Region.ready md ops listed, ∀ w, S w → Go.wpOp P ops Q i (fun a' w' => ∃ S' : World → Prop, Stays S' ∧ (leanT md ops need i = true → ∀ x, S' x → S0 x) ∧ S' w' ∧ wpDyn P md ops Q need S0 fuel (listed.setIfInBounds i true) a' S') a w

variable {need : List Nat}

theorem wpAny_of_dyn : ∀ (fuel : Nat) (listed : Array Bool) (a : Act) (S : World → Prop) (w : World), S w → wpDyn P md ops Q need S0 fuel listed a S → wpAny P md ops Q fuel listed a w
  | 0, _, _, _, w, hS, h => ⟨h.1, h.2 w hS⟩
  | fuel + 1, _, _, _, w, hS, h => ⟨fun h0 => h.1 h0 w hS, fun i hi => wpOp_mono (fun a' w' h' => by
      obtain ⟨S', _, _, hS', h''⟩ := h'
      exact wpAny_of_dyn fuel _ a' S' w' hS' h'') (h.2 i hi w hS)⟩

theorem wpDyn_first {i : Nat} {oi : Oper} {v : Value} (hi : ops[i]? = some oi) (hsel : ∀ (j : Nat) (o : Oper) cs b, ops[j]? = some o → o.op ≠ .select cs b)
    (hQ : ∀ c a w, Q (.panic c) (a.put oi.dst v) w → Q (.panic c) a w) (hn : need.contains i = true) :
    ∀ (fuel : Nat) (listed : Array Bool) (a : Act) (S : World → Prop), Closed md ops listed → Stays S → (∀ x, S x → S0 x) →
      (∀ j oj, ops[j]? = some oj → j ≠ i → listed.getD j true = false → (∀ e ∈ oj.after, Region.binds md e = true → e.on ≠ i) → oi.apart ops oj = true) →
      i ∈ Region.ready md ops listed → Gives P ops S0 oi v a →
      wpDyn P md ops Q need S0 fuel (listed.setIfInBounds i true) (a.put oi.dst v) S → wpDyn P md ops Q need S0 (fuel + 1) listed a S := by
  intro fuel
  induction fuel with
  | zero =>
    intro listed a S _ hst h0 _ hr hy H
    refine ⟨fun h => (by rw [h] at hr; cases hr), fun j hj w hS => ?_⟩
    by_cases hji : j = i
    · subst hji
      exact hy.wpOp hi (h0 w hS) fun w' hb => ⟨S, hst, fun _ => h0, hst w w' hS hb, H⟩
    · have := ready_mono hj hji
      rw [H.1] at this
      cases this
  | succ fuel ih =>
    intro listed a S hcl hst h0 hfree hr hy H
    refine ⟨fun h => (by rw [h] at hr; cases hr), fun j hj w hS => ?_⟩
    by_cases hji : j = i
    · subst hji
      exact hy.wpOp hi (h0 w hS) fun w' hb => ⟨S, hst, fun _ => h0, hst w w' hS hb, H⟩
    · have h1 := H.2 j (ready_mono hj hji) w hS
      have hlean := leanT_of hn hcl hj hr hji
      obtain ⟨hjun, oj, hoj, hall⟩ := mem_ready.1 hj
      have h00 := (mem_ready.1 hr).1
      have hnot : ∀ e ∈ oj.after, Region.binds md e = true → e.on ≠ i := fun e he hb heq => by
        have h1 := hall e he hb
        rw [heq] at h1
        exact not_both h00 h1
      have h2 := Gives.apart hoj (hfree j oj hoj hji hjun hnot) (fun cs b => hsel i oi cs b hi) (fun cs b => hsel j oj cs b hoj) hQ hy h1
      have hfree' : ∀ k ok, ops[k]? = some ok → k ≠ i → (listed.setIfInBounds j true).getD k true = false →
          (∀ e ∈ ok.after, Region.binds md e = true → e.on ≠ i) → oi.apart ops ok = true := fun k ok hk hki hun hno => by
        refine hfree k ok hk hki ?_ hno
        by_cases hjk : j = k
        · subst hjk; exact hjun
        · rw [getD_set_ne true hjk] at hun; exact hun
      refine wpOp_mono (fun a' w' h3 => ?_) h2
      obtain ⟨hg, S', hst', h0', hS', h4⟩ := h3
      refine ⟨S', hst', h0', hS', ih (listed.setIfInBounds j true) a' S' (hcl.step hj) hst' (h0' hlean) hfree' (ready_mono hr (Ne.symm hji)) hg ?_⟩
      rw [Array.setIfInBounds_comm _ _ hji]
      exact h4

/-- Take number 'i' first: one of 'need'. -/
theorem wpDyn_take {i : Nat} {oi : Oper} (v : Value) {fuel : Nat} {listed : Array Bool} {a : Act} {S : World → Prop} (hst : Stays S) (h0 : ∀ x, S x → S0 x) (hi : ops[i]? = some oi)
    (hs : Region.noSelect ops = true) (hf : Region.free md ops listed i = true) (hr : (Region.ready md ops listed).contains i = true) (hn : need.contains i = true) (hcl : closedB md ops listed = true)
    (hQ : ∀ c a w, Q (.panic c) (a.put oi.dst v) w → Q (.panic c) a w) (hy : Gives P ops S0 oi v a)
    (h : wpDyn P md ops Q need S0 fuel (listed.setIfInBounds i true) (a.put oi.dst v) S) : wpDyn P md ops Q need S0 (fuel + 1) listed a S :=
  wpDyn_first hi (Region.noSelect_spec hs) hQ hn fuel listed a S (closed_of hcl) hst h0 (Region.free_spec hi hf) (by simpa using hr) hy h

theorem wpDyn_done {listed : Array Bool} {a : Act} {S : World → Prop} (hr : Region.ready md ops listed = []) (h : ∀ w, S w → Q .normal a w) :
    ∀ fuel, wpDyn P md ops Q need S0 fuel listed a S
  | 0 => ⟨hr, h⟩
  | _ + 1 => ⟨fun _ => h, by rw [hr]; simp⟩

/-- Each of those that may come up comes up next. -/
def AllDyn (P : Program) (md : Region.Mode) (ops : Array Oper) (Q : Exit → Act → World → Prop) (need : List Nat) (S0 : World → Prop) (fuel : Nat) (listed : Array Bool) (a : Act) (S : World → Prop) (rs : List Nat) : Prop :=
  ∀ i ∈ rs, ∀ w, S w → Go.wpOp P ops Q i (fun a' w' => ∃ S' : World → Prop, Stays S' ∧ (leanT md ops need i = true → ∀ x, S' x → S0 x) ∧ S' w' ∧ wpDyn P md ops Q need S0 fuel (listed.setIfInBounds i true) a' S') a w

theorem AllDyn.nil {fuel : Nat} {listed : Array Bool} {a : Act} {S : World → Prop} : AllDyn P md ops Q need S0 fuel listed a S [] := fun _ h => by cases h

theorem AllDyn.cons {fuel : Nat} {listed : Array Bool} {a : Act} {S : World → Prop} {i : Nat} {o : Oper} {rs : List Nat} (ho : ops[i]? = some o)
    (h : ∀ w, S w → ∀ K' : Act → World → Prop, Shut (∀ (S' : World → Prop) a w, Stays S' → (leanT md ops need i = true → ∀ x, S' x → S0 x) → S' w → wpDyn P md ops Q need S0 fuel (listed.setIfInBounds i true) a S' → K' a w) → if Region.wanted o (yielded ops a.tmps) = true then Oper.wp P o a w K' Q else K' (a.put o.dst undef) w)
    (hs : AllDyn P md ops Q need S0 fuel listed a S rs) : AllDyn P md ops Q need S0 fuel listed a S (i :: rs) := fun j hj w hS => by
  rcases List.mem_cons.1 hj with rfl | hj
  · exact wpOp_step ho (fun K' hK => h w hS K' (fun S' a w h1 h2 h3 h4 => hK a w ⟨S', h1, h2, h3, h4⟩))
  · exact hs j hj w hS

theorem wpDyn_ready {rs : List Nat} {fuel : Nat} {listed : Array Bool} {a : Act} {S : World → Prop} (hr : Region.ready md ops listed = rs) (hne : rs ≠ [])
    (h : AllDyn P md ops Q need S0 fuel listed a S rs) : wpDyn P md ops Q need S0 (fuel + 1) listed a S :=
  ⟨fun h0 => absurd (hr ▸ h0) hne, hr ▸ h⟩

/-- The beginning. -/
theorem wp_region_dyn (need : List Nat) (S0 S : World → Prop) {id : Nat} {a : Act} {w : World} (hm : P.follows .mixedOrders = true) (hS : S w.drew)
    (h : wpDyn P .any ops Q need S0 ops.size (Array.replicate ops.size false) a S) : (Code.region id ops true).wp P Q a w :=
  wp_region_any hm (wpAny_of_dyn _ _ _ S _ hS h)

end

end Go.Proofs.YtpjhadaiodnnaaaGreat.M
end

section
namespace Go.Proofs.YtpjhadaiodnnaaaGreat.M
open Go.ChangeShapes Go.WideShapes Go.ChangeAt Go.RowKit
set_option linter.unusedSimpArgs false

/-- What Open hands back: the tape, or none. -/
def opT (c : Int) (gt : Nat) : Value := if c = 0 then .pointer (some ⟨gt, 0, none⟩) else .pointer none

set_option maxRecDepth 20000 in
set_option maxHeartbeats 4000000 in
theorem TOpen_gen (w : World) (g : Nat) (tl : Nat → List Int) (hRd : ∀ wr, Below w.heap.size w wr → ∀ i : Nat, i < 2 → Calls Tryz.prog 31 #[.pointer (some ⟨g, 0, none⟩), .int .i64 i] wr fun e w' => ∃ p' c', e = .returned (.tuple #[.slice p' (tl i).length c', .int .i64 0]) ∧ Ow .u8 5 w' wr.heap.size p' (tl i).length c' (tl i) ∧ Below wr.heap.size wr w') (hBy : ∀ i, i < 2 → By (tl i)) (hLt : ∀ i, i < 2 → (tl i).length ≤ 1099511627776) (PS : Int → Nat → World → Prop) (hPS : ∀ c gt W W', PS c gt W → Below W.heap.size W W' → PS c gt W')
    (hSv : (scT tl 2).2.2 = false → ∀ w1 gt pb nb cb pr cr vs, OI w w1 g gt (scT tl 2).1 (scT tl 2).2.1.recs.length (scT tl 2).2.1 pb nb cb pr cr vs → Calls Tryz.prog 14 #[.pointer (some ⟨gt, 0, none⟩), .slice pb nb cb, .slice pr (scT tl 2).2.1.recs.length cr] w1 fun e w' => ∃ c, e = .returned (.int .i64 c) ∧ PS c gt w') :
    Calls Tryz.prog 8 #[.pointer (some ⟨g, 0, none⟩)] w fun e w' => ((scT tl 2).2.2 = true ∧ ∃ gt pb nb cb pr cr vs, e = .returned (.tuple #[.pointer (some ⟨gt, 0, none⟩), .int .i64 0]) ∧ OI w w' g gt (scT tl 2).1 (scT tl 2).2.1.recs.length (scT tl 2).2.1 pb nb cb pr cr vs) ∨ ((scT tl 2).2.2 = false ∧ ∃ c gt, e = .returned (.tuple #[opT c gt, .int .i64 c]) ∧ PS c gt w') := by
  have hba := below_alloc w (.cells #[.pointer (some ⟨g, 0, none⟩), .int .i64 1, .int .i64 0, .int .i64 0, .slice none 0 0, .slice none 0 0] 81)
  have hA0 := At.new 81 w #[.pointer (some ⟨g, 0, none⟩), .int .i64 1, .int .i64 0, .int .i64 0, .slice none 0 0, .slice none 0 0]
  have HRd : Hid (∀ wr, Below w.heap.size w wr → ∀ i : Nat, i < 2 → Calls Tryz.prog 31 #[.pointer (some ⟨g, 0, none⟩), .int .i64 i] wr fun e w' => ∃ p' c', e = .returned (.tuple #[.slice p' (tl i).length c', .int .i64 0]) ∧ Ow .u8 5 w' wr.heap.size p' (tl i).length c' (tl i) ∧ Below wr.heap.size wr w') := hRd
  have HBy : Hid (∀ i, i < 2 → By (tl i)) := hBy
  have HLt : Hid (∀ i, i < 2 → (tl i).length ≤ 1099511627776) := hLt
  have HSv : Hid ((scT tl 2).2.2 = false → ∀ w1 gt pb nb cb pr cr vs, OI w w1 g gt (scT tl 2).1 (scT tl 2).2.1.recs.length (scT tl 2).2.1 pb nb cb pr cr vs → Calls Tryz.prog 14 #[.pointer (some ⟨gt, 0, none⟩), .slice pb nb cb, .slice pr (scT tl 2).2.1.recs.length cr] w1 fun e w' => ∃ c, e = .returned (.int .i64 c) ∧ PS c gt w') := hSv
  have HPS : Hid (∀ c gt W W', PS c gt W → Below W.heap.size W W' → PS c gt W') := hPS
  clear hRd hBy hLt hSv hPS
  have HA0 : Hid (At 81 (w.alloc (.cells #[.pointer (some ⟨g, 0, none⟩), .int .i64 1, .int .i64 0, .int .i64 0, .slice none 0 0, .slice none 0 0] 81)) w.heap.size #[.pointer (some ⟨g, 0, none⟩), .int .i64 1, .int .i64 0, .int .i64 0, .slice none 0 0, .slice none 0 0]) := hA0
  have HBA : Hid (Below w.heap.size w (w.alloc (.cells #[.pointer (some ⟨g, 0, none⟩), .int .i64 1, .int .i64 0, .int .i64 0, .slice none 0 0, .slice none 0 0] 81))) := hba
  clear hA0 hba
  go_enter Tryz.func8, Tryz.ntmps8
  go_wp2_with fail
  obtain ⟨gt, HG⟩ : ∃ z, z = w.heap.size := ⟨_, rfl⟩
  have HGT : Hid (gt = w.heap.size) := HG
  have hA0 := HA0.out
  have hba := HBA.out
  rw [← HG] at hA0 ⊢
  clear HG
  go_loopw [15, 5] (fun ix b wr => ∃ (k : Nat) (pb : Option Addr) (nb cb : Nat) (pr : Option Addr) (cr : Nat) (vs : List Value), k ≤ 2 ∧ ix = .int .i64 k ∧ b = .bool (scT tl k).2.2 ∧ OI w wr g gt (scT tl k).1 0 (scT tl k).2.1 pb nb cb pr cr vs) (fun ix _ _ => 2 - (intOf ix).toNat)
  case atStart => exact ⟨0, none, 0, 0, none, 0, [], by omega, rfl, rfl, ⟨hba, hA0, Ow.empty _ _ _ _ _, OwG.empty _ _ _, Slo.nil _ _ _, HGT.out⟩⟩
  case round =>
    obtain ⟨k, pb, nb, cb, pr, cr, vs, hk, rfl, rfl, hI⟩ := hrel
    by_cases hk2 : k < 2
    · have hki : (k : Int) < 2 := by omega
      have hR := HRd.out wr hI.hb k hk2
      go_wp2_with fail
      refine hR.mono ?_
      rintro e w1 ⟨p1, c1, rfl, hO1, hb1⟩
      clear hR
      have hL := load_any _ p1 _ c1 _ w1 hO1 (HBy.out k hk2) (HLt.out k hk2)
      go_wp2_with fail
      refine hL.mono ?_
      rintro e w2 ⟨⟨v, rfl, pb2, nb2, cb2, pr2, cr2, vs2, rfl, hO2, hV2, hS2⟩, hb2⟩
      clear hL
      obtain ⟨r2, Hr2⟩ : ∃ z, z = (ldR (tl k)).1 := ⟨_, rfl⟩
      obtain ⟨b2, Hb2⟩ : ∃ z, z = (ldR (tl k)).2 := ⟨_, rfl⟩
      obtain ⟨gen2, Hg2⟩ : ∃ z, z = r2.gen := ⟨_, rfl⟩
      obtain ⟨n2, Hn2⟩ : ∃ z, z = r2.recs.length := ⟨_, rfl⟩
      rw [← Hr2] at hO2 hS2 hV2 ⊢
      rw [← Hb2]
      rw [← Hn2] at hV2 ⊢
      rw [← Hg2]
      have HR2 : Hid (r2 = (ldR (tl k)).1) := Hr2
      have HB2 : Hid (b2 = (ldR (tl k)).2) := Hb2
      have HG2 : Hid (gen2 = r2.gen) := Hg2
      have HN2 : Hid (n2 = r2.recs.length) := Hn2
      clear Hr2 Hb2 Hg2 Hn2
      have hI2 := hI.below (hb1.trans (hb2.mono hb1.size))
      have hba3 := below_alloc w2 (.cells #[.int .i64 gen2, .slice pb2 nb2 cb2, .slice pr2 n2 cr2] 79)
      have hG3 := At.new 79 w2 #[.int .i64 gen2, .slice pb2 nb2 cb2, .slice pr2 n2 cr2]
      have hI3 := hI2.below hba3
      have HI3 : Hid (OI w (w2.alloc (.cells #[.int .i64 gen2, .slice pb2 nb2 cb2, .slice pr2 n2 cr2] 79)) g gt (scT tl k).1 0 (scT tl k).2.1 pb nb cb pr cr vs) := hI3
      have HG3 : Hid (At 79 (w2.alloc (.cells #[.int .i64 gen2, .slice pb2 nb2 cb2, .slice pr2 n2 cr2] 79)) w2.heap.size #[.int .i64 gen2, .slice pb2 nb2 cb2, .slice pr2 n2 cr2]) := hG3
      have HI0 : Hid (w.heap.size < wr.heap.size) := by show _ < _; have h1 := hI.blk.lt; rw [HGT.out] at h1; exact h1
      clear hI hI2 hI3 hba3 hG3 hA0 hba
      go_wp2_with fail
      have hI3 := HI3.out
      have hG3 := HG3.out
      generalize hw3 : w2.alloc (.cells #[.int .i64 gen2, .slice pb2 nb2 cb2, .slice pr2 n2 cr2] 79) = w3 at *
      generalize hgb : w2.heap.size = gb at *
      have hS3w : ∀ W, Bl w3 W → (W.cell? ⟨gb, 0, none⟩ = some (.int .i64 gen2) ∧ W.cell? ⟨gt, 3, none⟩ = some (.int .i64 (scT tl k).2.1.gen)) := fun W hW => ⟨cell_below (Bl.out' hW) (hG3.cell 0), cell_below (Bl.out' hW) (hI3.blk.cell 3)⟩
      have hS3 : Bl w3 w3.drew := (Below.refl _ _).drew
      refine wp_region_det [0, 1, 2, 3, 4, 5, 6, 7] (fun W => W.cell? ⟨gb, 0, none⟩ = some (.int .i64 gen2) ∧ W.cell? ⟨gt, 3, none⟩ = some (.int .i64 (scT tl k).2.1.gen)) (Bl w3) (by kernel_rfl) hS3 ?_
      refine wpDet_take ?vA0 (Bl.stays w3) hS3w (i := 0) rfl (by kernel_rfl) (by kernel_rfl) (by kernel_rfl) (by kernel_rfl) (fun _ _ _ h => h) (Gives.value (by rfl) ?yA0) ?rA0
      case yA0 => (intro w' hSw; (try dsimp only at hSw); go_simp; try with_reducible rfl)
      (try simp only [Act.put, List.getElem_toArray, List.getElem_cons_zero, List.getElem_cons_succ, List.setIfInBounds_toArray, List.set_cons_zero, List.set_cons_succ])
      refine wpDet_take ?vA1 (Bl.stays w3) hS3w (i := 1) rfl (by kernel_rfl) (by kernel_rfl) (by kernel_rfl) (by kernel_rfl) (fun _ _ _ h => h) (Gives.value (by rfl) ?yA1) ?rA1
      case yA1 => (intro w' hSw; have hz0 := hSw.1; (try dsimp only at hSw); go_simp; try with_reducible rfl)
      (try simp only [Act.put, List.getElem_toArray, List.getElem_cons_zero, List.getElem_cons_succ, List.setIfInBounds_toArray, List.set_cons_zero, List.set_cons_succ])
      refine wpDet_take ?vA2 (Bl.stays w3) hS3w (i := 2) rfl (by kernel_rfl) (by kernel_rfl) (by kernel_rfl) (by kernel_rfl) (fun _ _ _ h => h) (Gives.value (by rfl) ?yA2) ?rA2
      case yA2 => (intro w' hSw; (try dsimp only at hSw); go_simp; try with_reducible rfl)
      (try simp only [Act.put, List.getElem_toArray, List.getElem_cons_zero, List.getElem_cons_succ, List.setIfInBounds_toArray, List.set_cons_zero, List.set_cons_succ])
      refine wpDet_take ?vA3 (Bl.stays w3) hS3w (i := 3) rfl (by kernel_rfl) (by kernel_rfl) (by kernel_rfl) (by kernel_rfl) (fun _ _ _ h => h) (Gives.value (by rfl) ?yA3) ?rA3
      case yA3 => (intro w' hSw; (try dsimp only at hSw); go_simp; try with_reducible rfl)
      (try simp only [Act.put, List.getElem_toArray, List.getElem_cons_zero, List.getElem_cons_succ, List.setIfInBounds_toArray, List.set_cons_zero, List.set_cons_succ])
      refine wpDet_take ?vA4 (Bl.stays w3) hS3w (i := 4) rfl (by kernel_rfl) (by kernel_rfl) (by kernel_rfl) (by kernel_rfl) (fun _ _ _ h => h) (Gives.value (by rfl) ?yA4) ?rA4
      case yA4 => (intro w' hSw; (try dsimp only at hSw); go_simp; try with_reducible rfl)
      (try simp only [Act.put, List.getElem_toArray, List.getElem_cons_zero, List.getElem_cons_succ, List.setIfInBounds_toArray, List.set_cons_zero, List.set_cons_succ])
      refine wpDet_take ?vA5 (Bl.stays w3) hS3w (i := 5) rfl (by kernel_rfl) (by kernel_rfl) (by kernel_rfl) (by kernel_rfl) (fun _ _ _ h => h) (Gives.value (by rfl) ?yA5) ?rA5
      case yA5 => (intro w' hSw; (try dsimp only at hSw); go_simp; try with_reducible rfl)
      (try simp only [Act.put, List.getElem_toArray, List.getElem_cons_zero, List.getElem_cons_succ, List.setIfInBounds_toArray, List.set_cons_zero, List.set_cons_succ])
      refine wpDet_take ?vA6 (Bl.stays w3) hS3w (i := 6) rfl (by kernel_rfl) (by kernel_rfl) (by kernel_rfl) (by kernel_rfl) (fun _ _ _ h => h) (Gives.value (by rfl) ?yA6) ?rA6
      case yA6 => (intro w' hSw; have hz0 := hSw.2; (try dsimp only at hSw); go_simp; try with_reducible rfl)
      (try simp only [Act.put, List.getElem_toArray, List.getElem_cons_zero, List.getElem_cons_succ, List.setIfInBounds_toArray, List.set_cons_zero, List.set_cons_succ])
      refine wpDet_take ?vA7 (Bl.stays w3) hS3w (i := 7) rfl (by kernel_rfl) (by kernel_rfl) (by kernel_rfl) (by kernel_rfl) (fun _ _ _ h => h) (Gives.value (by rfl) ?yA7) ?rA7
      case yA7 => (intro w' hSw; (try dsimp only at hSw); go_simp; try with_reducible rfl)
      (try simp only [Act.put, List.getElem_toArray, List.getElem_cons_zero, List.getElem_cons_succ, List.setIfInBounds_toArray, List.set_cons_zero, List.set_cons_succ])
      refine wpDet_done (by kernel_rfl) (fun w4 hW4 => ?_) _
      have hbW := Bl.out' hW4
      have hI4 := hI3.below hbW
      have hG4 := hG3.below hbW
      have hi4 : ∀ r : Int, r = (scT tl k).2.1.gen → Hid (r = (scT tl k).2.1.gen) := fun _ h => h
      by_cases hgen : (scT tl k).2.1.gen < gen2
      · have kd : decide ((scT tl k).2.1.gen < gen2) = true := decide_eq_true hgen
        have HS : Hid (scT tl (k + 1) = (k, r2, b2)) := by
          show scT tl (k + 1) = _
          rw [HR2.out, HB2.out]
          unfold scT
          rw [if_pos (by rw [← HR2.out, ← HG2.out]; exact hgen)]
        have HI4 : Hid (OI w w4 g gt (scT tl k).1 0 (scT tl k).2.1 pb nb cb pr cr vs) := hI4
        have hb24 : Below w2.heap.size w2 w4 := by
          rw [← hw3] at hbW
          exact (below_alloc w2 _).trans (hbW.mono (by simp))
        have HO4 : Hid (Ow .u8 5 w4 w1.heap.size pb2 nb2 cb2 r2.base) := hO2.below hb24
        have HV4 : Hid (OwG 40 w4 w1.heap.size pr2 r2.recs.length cr2 vs2) := by show OwG _ _ _ _ _ _ _; rw [← HN2.out]; exact hV2.below hb24
        have HS4 : Hid (Slo 5 w4 w1.heap.size vs2 r2.recs) := hS2.below hb24
        clear hb24 hbW hO2 hV2 hS2
        have b0 : w4.cell? ⟨gb, 0, none⟩ = some (.int .i64 gen2) := hG4.cell 0
        have b1 : w4.cell? ⟨gb, 1, none⟩ = some (.slice pb2 nb2 cb2) := hG4.cell 1
        have b3 : w4.cell? ⟨gb, 2, none⟩ = some (.slice pr2 n2 cr2) := hG4.cell 2
        have t1 : w4.cell? ⟨gt, 1, none⟩ = some (.int .i64 (scT tl k).1) := hI4.blk.cell 1
        have t3 : w4.cell? ⟨gt, 3, none⟩ = some (.int .i64 (scT tl k).2.1.gen) := hI4.blk.cell 3
        have t4 : w4.cell? ⟨gt, 4, none⟩ = some (.slice pb nb cb) := hI4.blk.cell 4
        have t5 : w4.cell? ⟨gt, 5, none⟩ = some (.slice pr (scT tl k).2.1.recs.length cr) := hI4.blk.cell 5
        have hne : gb ≠ gt := fun e => by
          have h1 : gt < w2.heap.size := by rw [HGT.out]; exact Nat.lt_of_lt_of_le (HI0.out) (Nat.le_trans hb1.size hb2.size)
          omega
        have HW3 : Hid (w2.alloc (.cells #[.int .i64 gen2, .slice pb2 nb2 cb2, .slice pr2 n2 cr2] 79) = w3) := hw3
        have HGB : Hid (w2.heap.size = gb) := hgb
        clear hw3 hgb
        have f1 := hI4.blk.free 1
        have f3 := hI4.blk.free 3
        have f4 := hI4.blk.free 4
        have f5 := hI4.blk.free 5
        clear hI3 hG3 HI3 HG3 hS3w hS3 hW4 hi4 hI4
        go_wp2_with fail
        have hI5 := HI4.out.load k r2 w1.heap.size (Nat.lt_of_lt_of_le HI0.out hb1.size) (HO4.out) HV4.out HS4.out
        rw [← HG2.out, ← HN2.out] at hI5
        go_roundw
        case rel => exact ⟨k + 1, pb2, nb2, cb2, pr2, cr2, vs2, by omega, by go_num, by rw [HS.out], by rw [HS.out]; exact hI5⟩
        case measure => simp [intOf]; omega
      · have kd : decide ((scT tl k).2.1.gen < gen2) = false := decide_eq_false hgen
        have HS : Hid (scT tl (k + 1) = scT tl k) := by
          show scT tl (k + 1) = _
          rw [scT, if_neg (by rw [← HR2.out, ← HG2.out]; exact hgen)]
        have HI4 : Hid (OI w w4 g gt (scT tl k).1 0 (scT tl k).2.1 pb nb cb pr cr vs) := hI4
        clear hI3 hG3 HI3 HG3 hS3w hS3 hW4 hi4 hI4 hG4
        go_wp2_with fail
        go_roundw
        case rel => exact ⟨k + 1, pb, nb, cb, pr, cr, vs, by omega, by go_num, by rw [HS.out], by rw [HS.out]; exact HI4.out⟩
        case measure => simp [intOf]; omega
    · obtain rfl : k = 2 := by omega
      have hlt : decide (((2 : Nat) : Int) < 2) = false := by decide
      have hI5 := hI.keep (scT tl 2).2.1.recs.length
      have c5 : wr.cell? ⟨gt, 5, none⟩ = some (.slice pr (scT tl 2).2.1.recs.length cr) := hI.blk.cell 5
      have c2 : wr.cell? ⟨gt, 2, none⟩ = some (.int .i64 ((0 : Nat) : Int)) := hI.blk.cell 2
      have f2 := hI.blk.free 2
      have HI5 : Hid (OI w (wr.setCell ⟨gt, 2, none⟩ (.int .i64 (scT tl 2).2.1.recs.length)) g gt (scT tl 2).1 (scT tl 2).2.1.recs.length (scT tl 2).2.1 pb nb cb pr cr vs) := hI5
      clear hI hI5 hk hk2 hA0 hba
      cases hwh : (scT tl 2).2.2 with
      | true =>
        go_wp2_with fail
        go_ret2
        exact Or.inl ⟨hwh, gt, pb, nb, cb, pr, cr, vs, rfl, HI5.out⟩
      | false =>
        obtain ⟨n5, HN5⟩ : ∃ z, Hid (z = (scT tl 2).2.1.recs.length) := ⟨_, rfl⟩
        rw [← HN5.out] at c5
        have HI6 : Hid (OI w (wr.setCell ⟨gt, 2, none⟩ (.int .i64 n5)) g gt (scT tl 2).1 (scT tl 2).2.1.recs.length (scT tl 2).2.1 pb nb cb pr cr vs) := by show OI _ _ _ _ _ _ _ _ _ _ _ _ _; rw [HN5.out]; exact HI5.out
        clear HI5
        go_wp2_with fail
        generalize wr.setCell ⟨gt, 2, none⟩ (.int .i64 n5) = w5 at HI6 ⊢
        have HS2 : Hid (∀ V, Below w5.heap.size w5 V → Calls Tryz.prog 14 #[.pointer (some ⟨gt, 0, none⟩), .slice pb nb cb, .slice pr n5 cr] V fun e w' => ∃ c, e = .returned (.int .i64 c) ∧ PS c gt w') := fun V hV => by
          rw [HN5.out]
          exact HSv.out hwh V gt pb nb cb pr cr vs (HI6.out.below hV)
        have hS5w : ∀ W, Bl w5 W → (W.cell? ⟨gt, 4, none⟩ = some (.slice pb nb cb) ∧ W.cell? ⟨gt, 5, none⟩ = some (.slice pr n5 cr)) := fun W hW => ⟨cell_below (Bl.out' hW) (HI6.out.blk.cell 4), cell_below (Bl.out' hW) (by rw [HN5.out]; exact HI6.out.blk.cell 5)⟩
        have hS5 : Bl w5 w5.drew := (Below.refl _ _).drew
        clear c5 c2 f2
        refine wp_region_dyn [0, 1, 2, 3, 4, 5, 6, 7, 8, 9, 10] (fun W => W.cell? ⟨gt, 4, none⟩ = some (.slice pb nb cb) ∧ W.cell? ⟨gt, 5, none⟩ = some (.slice pr n5 cr)) (Bl w5) (by kernel_rfl) hS5 ?_
        refine wpDyn_take ?vB0 (Bl.stays w5) hS5w (i := 0) rfl (by kernel_rfl) (by kernel_rfl) (by kernel_rfl) (by kernel_rfl) (by kernel_rfl) (fun _ _ _ h => h) (Gives.value (by rfl) ?yB0) ?rB0
        case yB0 => (intro w' hSw; (try dsimp only at hSw); go_simp; try with_reducible rfl)
        (try simp only [Act.put, List.getElem_toArray, List.getElem_cons_zero, List.getElem_cons_succ, List.setIfInBounds_toArray, List.set_cons_zero, List.set_cons_succ])
        refine wpDyn_take ?vB1 (Bl.stays w5) hS5w (i := 1) rfl (by kernel_rfl) (by kernel_rfl) (by kernel_rfl) (by kernel_rfl) (by kernel_rfl) (fun _ _ _ h => h) (Gives.value (by rfl) ?yB1) ?rB1
        case yB1 => (intro w' hSw; (try dsimp only at hSw); go_simp; try with_reducible rfl)
        (try simp only [Act.put, List.getElem_toArray, List.getElem_cons_zero, List.getElem_cons_succ, List.setIfInBounds_toArray, List.set_cons_zero, List.set_cons_succ])
        refine wpDyn_take ?vB2 (Bl.stays w5) hS5w (i := 2) rfl (by kernel_rfl) (by kernel_rfl) (by kernel_rfl) (by kernel_rfl) (by kernel_rfl) (fun _ _ _ h => h) (Gives.value (by rfl) ?yB2) ?rB2
        case yB2 => (intro w' hSw; (try dsimp only at hSw); go_simp; try with_reducible rfl)
        (try simp only [Act.put, List.getElem_toArray, List.getElem_cons_zero, List.getElem_cons_succ, List.setIfInBounds_toArray, List.set_cons_zero, List.set_cons_succ])
        refine wpDyn_take ?vB3 (Bl.stays w5) hS5w (i := 3) rfl (by kernel_rfl) (by kernel_rfl) (by kernel_rfl) (by kernel_rfl) (by kernel_rfl) (fun _ _ _ h => h) (Gives.value (by rfl) ?yB3) ?rB3
        case yB3 => (intro w' hSw; (try dsimp only at hSw); go_simp; try with_reducible rfl)
        (try simp only [Act.put, List.getElem_toArray, List.getElem_cons_zero, List.getElem_cons_succ, List.setIfInBounds_toArray, List.set_cons_zero, List.set_cons_succ])
        refine wpDyn_take ?vB4 (Bl.stays w5) hS5w (i := 4) rfl (by kernel_rfl) (by kernel_rfl) (by kernel_rfl) (by kernel_rfl) (by kernel_rfl) (fun _ _ _ h => h) (Gives.value (by rfl) ?yB4) ?rB4
        case yB4 => (intro w' hSw; (try dsimp only at hSw); go_simp; try with_reducible rfl)
        (try simp only [Act.put, List.getElem_toArray, List.getElem_cons_zero, List.getElem_cons_succ, List.setIfInBounds_toArray, List.set_cons_zero, List.set_cons_succ])
        refine wpDyn_take ?vB5 (Bl.stays w5) hS5w (i := 5) rfl (by kernel_rfl) (by kernel_rfl) (by kernel_rfl) (by kernel_rfl) (by kernel_rfl) (fun _ _ _ h => h) (Gives.value (by rfl) ?yB5) ?rB5
        case yB5 => (intro w' hSw; have hz0 := hSw.1; (try dsimp only at hSw); go_simp; try with_reducible rfl)
        (try simp only [Act.put, List.getElem_toArray, List.getElem_cons_zero, List.getElem_cons_succ, List.setIfInBounds_toArray, List.set_cons_zero, List.set_cons_succ])
        refine wpDyn_take ?vB6 (Bl.stays w5) hS5w (i := 6) rfl (by kernel_rfl) (by kernel_rfl) (by kernel_rfl) (by kernel_rfl) (by kernel_rfl) (fun _ _ _ h => h) (Gives.value (by rfl) ?yB6) ?rB6
        case yB6 => (intro w' hSw; (try dsimp only at hSw); go_simp; try with_reducible rfl)
        (try simp only [Act.put, List.getElem_toArray, List.getElem_cons_zero, List.getElem_cons_succ, List.setIfInBounds_toArray, List.set_cons_zero, List.set_cons_succ])
        refine wpDyn_take ?vB7 (Bl.stays w5) hS5w (i := 7) rfl (by kernel_rfl) (by kernel_rfl) (by kernel_rfl) (by kernel_rfl) (by kernel_rfl) (fun _ _ _ h => h) (Gives.value (by rfl) ?yB7) ?rB7
        case yB7 => (intro w' hSw; (try dsimp only at hSw); go_simp; try with_reducible rfl)
        (try simp only [Act.put, List.getElem_toArray, List.getElem_cons_zero, List.getElem_cons_succ, List.setIfInBounds_toArray, List.set_cons_zero, List.set_cons_succ])
        refine wpDyn_take ?vB8 (Bl.stays w5) hS5w (i := 8) rfl (by kernel_rfl) (by kernel_rfl) (by kernel_rfl) (by kernel_rfl) (by kernel_rfl) (fun _ _ _ h => h) (Gives.value (by rfl) ?yB8) ?rB8
        case yB8 => (intro w' hSw; (try dsimp only at hSw); go_simp; try with_reducible rfl)
        (try simp only [Act.put, List.getElem_toArray, List.getElem_cons_zero, List.getElem_cons_succ, List.setIfInBounds_toArray, List.set_cons_zero, List.set_cons_succ])
        refine wpDyn_take ?vB9 (Bl.stays w5) hS5w (i := 9) rfl (by kernel_rfl) (by kernel_rfl) (by kernel_rfl) (by kernel_rfl) (by kernel_rfl) (fun _ _ _ h => h) (Gives.value (by rfl) ?yB9) ?rB9
        case yB9 => (intro w' hSw; (try dsimp only at hSw); go_simp; try with_reducible rfl)
        (try simp only [Act.put, List.getElem_toArray, List.getElem_cons_zero, List.getElem_cons_succ, List.setIfInBounds_toArray, List.set_cons_zero, List.set_cons_succ])
        refine wpDyn_take ?vB10 (Bl.stays w5) hS5w (i := 10) rfl (by kernel_rfl) (by kernel_rfl) (by kernel_rfl) (by kernel_rfl) (by kernel_rfl) (fun _ _ _ h => h) (Gives.value (by rfl) ?yB10) ?rB10
        case yB10 => (intro w' hSw; have hz0 := hSw.2; (try dsimp only at hSw); go_simp; try with_reducible rfl)
        (try simp only [Act.put, List.getElem_toArray, List.getElem_cons_zero, List.getElem_cons_succ, List.setIfInBounds_toArray, List.set_cons_zero, List.set_cons_succ])
        refine wpDyn_ready (rs := [11]) (by kernel_rfl) (by simp) (AllDyn.cons rfl (fun V hV K hK => ?_) AllDyn.nil)
        rw [if_pos (by rfl)]
        have hbV := Bl.out' hV
        have hS := HS2.out V hbV
        refine wp_enterX 14 #[.pointer (some ⟨gt, 0, none⟩), .slice pb nb cb, .slice pr n5 cr] (by first | (go_simp; done) | (go_simp; rfl)) (fun v V' => ∃ c, v = .int .i64 c ∧ PS c gt V') (hS.mono fun e V' ⟨c, h1, h2⟩ => ⟨_, h1, c, rfl, h2⟩) ?_
        rintro v V1 ⟨c, rfl, hP⟩
        refine hK.out (fun W => PS c gt W) _ _ (fun _ _ h hb => HPS.out _ _ _ _ h hb) (no_leanT (by kernel_rfl)) hP ?_
        clear hK K hV hS hbV
        (try simp only [Act.put, List.getElem_toArray, List.getElem_cons_zero, List.getElem_cons_succ, List.setIfInBounds_toArray, List.set_cons_zero, List.set_cons_succ])
        refine wpDyn_ready (rs := [12]) (by kernel_rfl) (by simp) (AllDyn.cons rfl (fun V hV K hK => ?_) AllDyn.nil)
        rw [if_pos (by rfl)]
        refine wp_value (.int .i64 c) V (by first | (go_simp; done) | (go_simp; rfl)) ?_
        refine hK.out (fun W => PS c gt W) _ _ (fun _ _ h hb => HPS.out _ _ _ _ h hb) (no_leanT (by kernel_rfl)) hV ?_
        clear hK K hV
        (try simp only [Act.put, List.getElem_toArray, List.getElem_cons_zero, List.getElem_cons_succ, List.setIfInBounds_toArray, List.set_cons_zero, List.set_cons_succ])
        refine wpDyn_done (by kernel_rfl) (fun W2 hW2 => ?_) _
        clear hS5w hS5
        by_cases hc0 : c = 0
        · subst hc0
          go_wp2_with fail
          go_ret2
          exact Or.inr ⟨hwh, 0, gt, rfl, hW2⟩
        · have hcn : (c != 0) = true := by simpa using hc0
          go_wp2_with fail
          go_ret2
          exact Or.inr ⟨hwh, c, gt, by show _ = Ending.returned (.tuple #[opT c gt, .int .i64 c]); unfold opT; rw [if_neg hc0]; rfl, hW2⟩

end Go.Proofs.YtpjhadaiodnnaaaGreat.M
end

section
namespace Go.Proofs.YtpjhadaiodnnaaaGreat.M
open Go.ChangeShapes Go.WideShapes Go.ChangeAt Go.RowKit
set_option linter.unusedSimpArgs false

theorem Rd.str {w : World} {p : Option Addr} {n c : Nat} {xs : List Int} (h : Rd .u8 w p n c xs) : (convert 40 9 (.slice p n c)).run Tryz.prog w = .ok (.string (strOfNums xs)) w :=
  h.conv (P := Tryz.prog) 40 5 9 Tryz.underlying40 Tryz.underlying5 Tryz.underlying9

/-- Lists of bytes as texts. -/
def strs (xss : List (List Int)) : List Value := xss.map fun x => .string (strOfNums x)

theorem strs_snoc {l : List (List Int)} {k : Nat} (h : k < l.length) : strs (l.take (k + 1)) = strs (l.take k) ++ [.string (strOfNums (l.getD k []))] := by
  unfold strs
  rw [take_snocV h, List.map_append]
  rfl

theorem infoT : (Tryz.prog.info? 9).map (fun i => (i.zero, i.size, i.bytes)) = some (some (.string ByteArray.empty), 1, 16) := by kernel_rfl

set_option maxRecDepth 20000 in
set_option maxHeartbeats 2000000 in
theorem records_any (w : World) (gt g : Nat) (pr : Option Addr) (n cr : Nat) (vs : List Value) (recs : List (List Int)) (h0 : w.cell? ⟨gt, 0, none⟩ = some (.pointer (some ⟨g, 0, none⟩))) (h5 : w.cell? ⟨gt, 5, none⟩ = some (.slice pr n cr)) (hv : RdV w pr n cr vs) (hs : Sls w vs recs) (hn : n = recs.length) (hfew : n ≤ 1099511627776) (hrec : ∀ i, i < recs.length → (recs.getD i []).length ≤ 1099511627776) :
    Calls Tryz.prog 28 #[.pointer (some ⟨gt, 0, none⟩)] w fun e w' => (∃ p' c', e = .returned (.slice p' n c') ∧ OwV 9 w' w.heap.size p' n c' (strs recs)) ∧ Below w.heap.size w w' := by
  have hL := TLen_ok w gt g pr n cr h0 h5
  obtain ⟨i0, hi0, hz0, hz1, hz2⟩ := info_parts infoT
  have HN : Hid (n = recs.length) := hn
  have HV : Hid (RdV w pr n cr vs) := hv
  have HS : Hid (Sls w vs recs) := hs
  have HR : Hid (∀ i, i < recs.length → (recs.getD i []).length ≤ 1099511627776) := hrec
  have H5 : Hid (w.cell? ⟨gt, 5, none⟩ = some (.slice pr n cr)) := h5
  have H0 : Hid (w.cell? ⟨gt, 0, none⟩ = some (.pointer (some ⟨g, 0, none⟩))) := h0
  clear hn hv hs hrec h5 h0
  go_enter Tryz.func28, Tryz.ntmps28
  go_wp2_with fail
  refine hL.mono ?_
  rintro e w1 ⟨rfl, hb1⟩
  clear hL
  have HB1 : Hid (Below w.heap.size w w1) := hb1
  clear hb1
  go_wp2_with fail
  go_loopw [9, 3] (fun ix l wr => ∃ (k : Nat) (p' : Option Addr) (c' : Nat), k ≤ n ∧ ix = .int .i64 k ∧ l = .slice p' k c' ∧ OwV 9 wr w.heap.size p' k c' (strs (recs.take k)) ∧ Below w.heap.size w wr) (fun ix _ _ => n - (intOf ix).toNat)
  case atStart => exact ⟨0, none, 0, by omega, rfl, rfl, OwV.empty _ _ _ _, HB1.out⟩
  case round =>
    obtain ⟨k, p', c', hk, rfl, rfl, ho, hb⟩ := hrel
    by_cases hkn : k < n
    · have hki : (k : Int) < (n : Int) := by omega
      have hkr : k < recs.length := by rw [← HN.out]; exact hkn
      obtain ⟨b, o, rfl, hcl⟩ := HV.out.cells (by omega)
      obtain ⟨q, m, d, hq, hr⟩ := HS.out.2 k (by rw [HS.out.1]; exact hkr)
      have hxl : m ≤ 1099511627776 := by rw [← hr.len]; exact HR.out k hkr
      have hA := TAt_ok wr gt g b o n cr k hkn (cell_below hb H0.out) (cell_below hb H5.out) q m d (by rw [cell_below hb (hcl k hkn), hq]) _ (hr.below hb) hxl
      obtain ⟨xs, hxs⟩ : ∃ z, Hid (z = recs.getD k []) := ⟨_, rfl⟩
      rw [← hxs.out] at hA
      clear hcl hq hr hxl
      go_wp2_with fail
      refine hA.mono ?_
      rintro e w2 ⟨⟨p2, c2, rfl, hO2⟩, hb2⟩
      clear hA
      have hst := (hO2.rd).str
      have hbb := hb.trans (hb2.mono hb.size)
      have hoL := ho.below hb2
      have hc1 : (w2.alloc (.cells #[.string (strOfNums xs)] 9)).cell? ⟨w2.heap.size, 0, none⟩ = some (.string (strOfNums xs)) := by simp
      have hsz := hbb.size
      clear hb hb2 ho hO2
      go_wp2_with (refine wpList_appV _ rfl (.tmp 18) (.tmp 21) 49 rfl 9 i0 (.string ByteArray.empty) 16 Tryz.underlying49 hi0 hz0 hz1 hz2 rfl w.heap.size p' k c' _ rfl (hoL.below (below_alloc _ _)) _ _ _ _ rfl hc1 rfl ?b1 ?b2 ?b3 ?_)
      case b1 => omega
      case b2 => unfold maxLen; omega
      case b3 => (simp; omega)
      intro p3 c3 w3 ho3 hb3 hk3
      have hbb3 := (hbb.alloc hbb.size (.cells #[.string (strOfNums xs)] 9)).trans hb3
      have HO3 : Hid (OwV 9 w3 w.heap.size p3 (k + 1) c3 (strs (recs.take (k + 1)))) := by
        show OwV _ _ _ _ _ _ _
        rw [strs_snoc hkr, ← hxs.out]
        exact ho3
      clear ho3 hoL hbb hb3 hk3 hst hc1
      go_wp2_with fail
      go_roundw
      case rel => exact ⟨k + 1, p3, c3, by omega, by go_num, by go_num, HO3.out, hbb3⟩
      case measure => simp [intOf]; omega
    · obtain rfl : k = n := by omega
      have HO : Hid (OwV 9 wr w.heap.size p' k c' (strs recs)) := by
        show OwV _ _ _ _ _ _ _
        have h1 : recs.take k = recs := List.take_of_length_le (by rw [← HN.out]; exact Nat.le_refl _)
        rw [h1] at ho
        exact ho
      clear ho
      go_wp2_with fail
      go_ret
      exact ⟨⟨p', c', rfl, HO.out⟩, hb⟩

end Go.Proofs.YtpjhadaiodnnaaaGreat.M
end

section
namespace Go.Proofs.YtpjhadaiodnnaaaGreat.M
open Go.ChangeShapes Go.WideShapes Go.ChangeAt Go.RowKit
set_option linter.unusedSimpArgs false

/-- A disk in block g, all its memory from block L on. -/
structure DS (w : World) (L a g : Nat) (own : Nat → Nat) (d : Dk) (m : PD) : Prop where
  da : DA w L own a g d m
  lw : L ≤ w.heap.size
  lg : L ≤ g
  low : ∀ k, k < L → own k = 0

/-- A disk and a tape in block gt. -/
def TSt (w : World) (L a g gt : Nat) (m : PD) (t : TP) : Prop := ∃ own d pb nb cb pr cr vs, DS w L a g own d m ∧ TB w own g gt t pb nb cb pr cr vs ∧ L ≤ gt

/-- The same, and the tape may append. -/
def TSo (w : World) (L a g gt : Nat) (m : PD) (t : TP) : Prop := ∃ own d pb nb cb pr cr vs Bv, DS w L a g own d m ∧ TB w own g gt t pb nb cb pr cr vs ∧ L ≤ gt ∧ TO w own Bv g gt t pb nb cb pr cr vs ∧ Bv ≤ w.heap.size

theorem TSo.t {w : World} {L a g gt : Nat} {m : PD} {t : TP} (h : TSo w L a g gt m t) : TSt w L a g gt m t := by
  obtain ⟨own, d, pb, nb, cb, pr, cr, vs, Bv, h1, h2, h3, h4, h5⟩ := h
  exact ⟨own, d, pb, nb, cb, pr, cr, vs, h1, h2, h3⟩

theorem DS.below {w w' : World} {L a g : Nat} {own : Nat → Nat} {d : Dk} {m : PD} (h : DS w L a g own d m) (hb : Below w.heap.size w w') : DS w' L a g own d m := ⟨h.da.below hb, Nat.le_trans h.lw hb.size, h.lg, h.low⟩

theorem TSt.below {w w' : World} {L a g gt : Nat} {m : PD} {t : TP} (h : TSt w L a g gt m t) (hb : Below w.heap.size w w') : TSt w' L a g gt m t := by
  obtain ⟨own, d, pb, nb, cb, pr, cr, vs, h1, h2, h3⟩ := h
  exact ⟨own, d, pb, nb, cb, pr, cr, vs, h1.below hb, h2.below hb, h3⟩

theorem TSo.below {w w' : World} {L a g gt : Nat} {m : PD} {t : TP} (h : TSo w L a g gt m t) (hb : Below w.heap.size w w') : TSo w' L a g gt m t := by
  obtain ⟨own, d, pb, nb, cb, pr, cr, vs, Bv, h1, h2, h3, h4, h5⟩ := h
  exact ⟨own, d, pb, nb, cb, pr, cr, vs, Bv, h1.below hb, h2.below hb, h3, h4.below hb, Nat.le_trans h5 hb.size⟩

/-- Nothing below L is touched. -/
theorem Ch.lowL {S : Nat → Prop} {w w' : World} {L : Nat} (h : Ch S w w') (hL : L ≤ w.heap.size) (hs : ∀ k, k < L → ¬ S k) : Below L w w' := ⟨h.os, h.tape, h.output, h.size, fun k hk => h.block k (Nat.lt_of_lt_of_le hk hL) (hs k hk)⟩

theorem DS.no {w : World} {L a g gt i k : Nat} {own : Nat → Nat} {d : Dk} {m : PD} (h : DS w L a g own d m) (hgt : L ≤ gt) (hk : k < L) : ¬ (k = g ∨ k = gt ∨ own k = mark a i) := fun e => by
  have h1 := h.lg
  rcases e with e | e | e
  · omega
  · omega
  · rw [h.low k hk] at e
    unfold mark at e
    omega

theorem DS.mv {w w' : World} {L a g : Nat} {own own2 : Nat → Nat} {d d2 : Dk} {m m2 : PD} (h : DS w L a g own d m) (h2 : DA w' L own2 a g d2 m2) (hs : w.heap.size ≤ w'.heap.size) (ho : ∀ k, k < w.heap.size → own2 k = own k) : DS w' L a g own2 d2 m2 :=
  ⟨h2, Nat.le_trans h.lw hs, h.lg, fun k hk => (ho k (Nat.lt_of_lt_of_le hk h.lw)).trans (h.low k hk)⟩

/-- What Save makes of a disk. -/
def svM (m : PD) (i : Nat) (r : PR) : PD := { m with f := upP m.f i ⟨sealR r, sealR r, false⟩ }

/-- The room that Save asks for. -/
def svN (m : PD) (i : Nat) (r : PR) : Nat := ({ m with f := upP m.f i ⟨[], (m.f i).lasts, true⟩ } : PD).used + (sealR r).length

theorem Save_S (w : World) (L a g gt : Nat) (m : PD) (t : TP) (ha : a ≤ 100) (hT : TSt w L a g gt m t) (hm : Good m) (hfile : t.file ≤ 1) (hgen : 0 ≤ t.r.gen ∧ t.r.gen < 1099511627776)
    (pa : Option Addr) (na ca : Nat) (base : List Int) (hpa : Rd .u8 w pa na ca base) (hby : By base) (hna : na ≤ 8176) (pl : Option Addr) (nl cl : Nat) (us : List Value) (recs : List (List Int)) (hpl : RdV w pl nl cl us) (hus : Sls w us recs) (hnl : nl = recs.length) (hfew : nl ≤ 1000000) (hrec : ∀ i, i < recs.length → By (recs.getD i []) ∧ (recs.getD i []).length ≤ 8192)
    (hroom : svN m (1 - t.file) ⟨t.r.gen + 1, base, recs⟩ ≤ m.room) :
    Calls Tryz.prog 14 #[.pointer (some ⟨gt, 0, none⟩), .slice pa na ca, .slice pl nl cl] w fun e w' => e = .returned (.int .i64 0) ∧ TSo w' L a g gt (svM m (1 - t.file) ⟨t.r.gen + 1, base, recs⟩) ⟨1 - t.file, nl, ⟨t.r.gen + 1, base, recs⟩⟩ ∧ Below L w w' := by
  obtain ⟨own, d, pb, nb, cb, pr, cr, vs, hD, hB, hgt⟩ := hT
  refine (Save_ok w L own a g d m ha hD.da hm hD.lw gt t pb nb cb pr cr vs hB hfile hgen pa na ca base hpa hby hna pl nl cl us recs hpl hus hnl hfew hrec hroom).mono ?_
  rintro e w' ⟨rfl, own2, d2, qb, mb, db, qr, dr, us2, h1, h2, h3, h4, h5⟩
  exact ⟨rfl, ⟨own2, d2, qb, mb, db, qr, dr, us2, w.heap.size, hD.mv h1 h5.size h4, h2, hgt, h3, h5.size⟩, h5.lowL hD.lw fun k hk => hD.no hgt hk⟩

theorem TSync_S (w : World) (L a g gt : Nat) (m : PD) (t : TP) (ha : a ≤ 100) (hT : TSo w L a g gt m t) (hm : Good m) (hfile : t.file ≤ 1) :
    Calls Tryz.prog 12 #[.pointer (some ⟨gt, 0, none⟩)] w fun e w' => e = .returned (.int .i64 0) ∧ TSo w' L a g gt { m with f := upP m.f t.file ⟨(m.f t.file).told, (m.f t.file).told, false⟩ } ⟨t.file, t.r.recs.length, t.r⟩ ∧ Below L w w' := by
  obtain ⟨own, d, pb, nb, cb, pr, cr, vs, Bv, hD, hB, hgt, hO, hBv⟩ := hT
  refine (TSync_ok w L own a g d m ha hD.da hm gt t pb nb cb pr cr vs hB hfile).mono ?_
  rintro e w' ⟨rfl, own2, d2, h1, h2, h3, h4⟩
  have hO2 : TO w' own2 Bv g gt t pb nb cb pr cr vs := hO.ch h4 (fun k hf hn e => by
    rcases e with e | e | e
    · exact hf.2 e
    · exact hn e
    · exact far_mark ha (show t.file < 8 by omega) (by rw [← e, hf.1])) (fun k hk e => (h3 k hk).trans e)
  exact ⟨rfl, ⟨own2, d2, pb, nb, cb, pr, cr, vs, Bv, hD.mv h1 h4.size h3, h2, hgt, ⟨hO2.bas, hO2.fb, hO2.rcs, hO2.fv, hO2.sls, hO2.fs⟩, Nat.le_trans hBv h4.size⟩, h4.lowL hD.lw fun k hk => hD.no hgt hk⟩

theorem TPut_S (w0 w : World) (L a g gt : Nat) (m : PD) (t : TP) (ha : a ≤ 100) (hT : TSo w0 L a g gt m t) (hbw : Below w0.heap.size w0 w) (hm : Good m) (hfile : t.file ≤ 1) (hcount : t.r.recs.length < 1000000)
    (pa : Option Addr) (na ca : Nat) (xs : List Int) (hpa : Rd .u8 w pa na ca xs) (hby : By xs) (hna : na ≤ 8192) (hda : ∀ x, pa = some x → 0 < na → w0.heap.size ≤ x.block ∨ x.block < L) (hroom : m.used + (sealL xs).length ≤ m.room) :
    Calls Tryz.prog 21 #[.pointer (some ⟨gt, 0, none⟩), .slice pa na ca] w fun e w' => e = .returned (.int .i64 0) ∧ TSo w' L a g gt { m with f := upP m.f t.file { m.f t.file with told := (m.f t.file).told ++ sealL xs } } ⟨t.file, t.kept, ⟨t.r.gen, t.r.base, t.r.recs ++ [xs]⟩⟩ ∧ Below L w w' := by
  obtain ⟨own, d, pb, nb, cb, pr, cr, vs, Bv, hD0, hB0, hgt, hO0, hBv0⟩ := hT
  have hD := hD0.below hbw
  have hgl : g < w0.heap.size := hD0.da.dc.lt
  refine (TPut_ok w L own a g d m ha hD.da hm hD.lw gt t pb nb cb pr cr vs (hB0.below hbw) hfile Bv (Nat.le_trans hBv0 hbw.size) (hO0.below hbw) hcount pa na ca xs hpa hby hna (fun x e h0 => ?_) hroom).mono ?_
  · rcases hda x e h0 with h1 | h1
    · exact ⟨fun e2 => by rw [hD0.da.fr _ h1] at e2; unfold mark at e2; omega, by omega⟩
    · have h2 := hD0.lg
      exact ⟨fun e2 => by rw [hD0.low _ h1] at e2; unfold mark at e2; omega, by omega⟩
  · rintro e w' ⟨rfl, own2, d2, pr2, cr2, q, c, h1, h2, h3, h4, h5⟩
    refine ⟨rfl, ⟨own2, d2, pb, nb, cb, pr2, cr2, vs ++ [.slice q na c], Bv, hD.mv h1 h5.size h4, h2, hgt, h3, Nat.le_trans (Nat.le_trans hBv0 hbw.size) h5.size⟩, h5.lowL hD.lw fun k hk e => ?_⟩
    rcases e with e | e | e | ⟨x, e, hc, ex⟩
    · exact hD.no hgt hk (i := 0) (Or.inl e)
    · exact hD.no hgt hk (i := 0) (Or.inr (Or.inl e))
    · exact hD.no hgt hk (Or.inr (Or.inr e))
    · have h6 := (hO0.fv x e hc).1.1
      rw [← ex, hD.low k hk] at h6
      cases h6

theorem Good.few' {m : PD} (h : Good m) : m.few := h.few

/-- A disk alone. -/
def DSt (w : World) (L a g : Nat) (m : PD) : Prop := ∃ own d, DS w L a g own d m

theorem DSt.below {w w' : World} {L a g : Nat} {m : PD} (h : DSt w L a g m) (hb : Below w.heap.size w w') : DSt w' L a g m := by
  obtain ⟨own, d, h⟩ := h
  exact ⟨own, d, h.below hb⟩

theorem TSt.d {w : World} {L a g gt : Nat} {m : PD} {t : TP} (h : TSt w L a g gt m t) : DSt w L a g m := by
  obtain ⟨own, d, pb, nb, cb, pr, cr, vs, h1, _⟩ := h
  exact ⟨own, d, h1⟩

theorem DS.marked {w w' : World} {L a g : Nat} {own : Nat → Nat} {d : Dk} {m : PD} (h : DS w L a g own d m) (hb : Below w.heap.size w w') : DS w' L a g (farO own w.heap.size w'.heap.size) d m :=
  ⟨h.da.marked hb, Nat.le_trans h.lw hb.size, h.lg, fun k hk => by rw [farO_low (Nat.lt_of_lt_of_le hk h.lw)]; exact h.low k hk⟩

/-- Where Open is done: the reel that counts, or the next one. -/
theorem TOpen_S (w : World) (L a g : Nat) (m : PD) (ha : a ≤ 100) (hD : DSt w L a g m) (hm : Good m) (f : Nat) (r : PR) (b : Bool) (hsc : scT (fun i => (m.f i).told) 2 = (f, r, b)) (hBy : ∀ i, i < 2 → By (m.f i).told) (hf : f ≤ 1) (hr : r.ok) (hg : r.gen < 1099511627776) (hroom : b = false → svN m (1 - f) ⟨r.gen + 1, r.base, r.recs⟩ ≤ m.room) :
    Calls Tryz.prog 8 #[.pointer (some ⟨g, 0, none⟩)] w fun e w' => (∃ gt, e = .returned (.tuple #[.pointer (some ⟨gt, 0, none⟩), .int .i64 0]) ∧ ((b = true ∧ TSo w' L a g gt m ⟨f, r.recs.length, r⟩) ∨ (b = false ∧ TSo w' L a g gt (svM m (1 - f) ⟨r.gen + 1, r.base, r.recs⟩) ⟨1 - f, r.recs.length, ⟨r.gen + 1, r.base, r.recs⟩⟩))) ∧ Below L w w' := by
  obtain ⟨own, d, hS⟩ := hD
  have hgl : g < w.heap.size := hS.da.dc.lt
  have hX : ∀ w1 gt pb nb cb pr cr vs, OI w w1 g gt f r.recs.length r pb nb cb pr cr vs → TSo w1 L a g gt m ⟨f, r.recs.length, r⟩ := fun w1 gt pb nb cb pr cr vs hI =>
    ⟨_, d, pb, nb, cb, pr, cr, vs, w.heap.size, hS.marked hI.hb, hI.tb hgl, by have := hI.ge; have := hS.lw; omega, hI.to hgl, hI.hb.size⟩
  refine (TOpen_gen w g (fun i => (m.f i).told) (fun wr hb i hi => Read_O wr L own a g d m (hS.da.below hb) hm.r0 hm.up hm.few i (by omega)) hBy (fun i hi => Nat.le_trans (hm.few.told i (by omega)) (by decide)) (fun c gt w' => c = 0 ∧ TSo w' L a g gt (svM m (1 - f) ⟨r.gen + 1, r.base, r.recs⟩) ⟨1 - f, r.recs.length, ⟨r.gen + 1, r.base, r.recs⟩⟩ ∧ Below L w w') (fun c gt W W' h hb => ⟨h.1, h.2.1.below hb, h.2.2.trans (hb.mono (Nat.le_trans hS.lw h.2.2.size))⟩) ?_).mono ?_
  · rw [hsc]
    intro hb w1 gt pb nb cb pr cr vs hI
    refine (Save_S w1 L a g gt m ⟨f, r.recs.length, r⟩ ha (hX _ _ _ _ _ _ _ _ hI).t hm hf ⟨hr.gen.1, hg⟩ pb nb cb r.base hI.bas.rd hr.base.2 (by rw [← hI.bas.len]; exact hr.base.1) pr r.recs.length cr vs r.recs hI.rcs.rd hI.sls.sls rfl hr.few hr.recs (hroom hb)).mono ?_
    rintro e w' ⟨rfl, h1, h2⟩
    exact ⟨0, rfl, rfl, h1, (hI.hb.mono hS.lw).trans h2⟩
  · rw [hsc]
    rintro e w' (⟨hb, gt, pb, nb, cb, pr, cr, vs, rfl, hI⟩ | ⟨hb, c, gt, rfl, rfl, h1, h2⟩)
    · exact ⟨⟨gt, rfl, Or.inl ⟨hb, hX _ _ _ _ _ _ _ _ hI⟩⟩, hI.hb.mono hS.lw⟩
    · exact ⟨⟨gt, rfl, Or.inr ⟨hb, h1⟩⟩, h2⟩

end Go.Proofs.YtpjhadaiodnnaaaGreat.M
end

section
namespace Go.Proofs.YtpjhadaiodnnaaaGreat.M
open Go.ChangeShapes Go.WideShapes Go.ChangeAt Go.RowKit

set_option maxRecDepth 20000 in
theorem Arm_low (w : World) (B : Nat) (own : Nat → Nat) (a g : Nat) (d : Dk) (m : PD) (h : DA w B own a g d m) (hr : 0 < m.room) (hw : m.down = false) (n : Int) (hn : n < 1) (q : Option Addr) (l c : Nat) :
    Calls Tryz.prog 19 #[.pointer (some ⟨g, 0, none⟩), .int .i64 n, .slice q l c] w fun e w' => e = .returned (.int .i64 1) ∧ w' = w := by
  have hR := ready_any w g d h.dc (by rw [h.room]; exact hr)
  rw [h.down, hw] at hR
  clear h
  go_enter Tryz.func19, Tryz.ntmps19
  go_wp2_with fail
  refine hR.mono ?_
  rintro e w1 ⟨rfl, rfl⟩
  go_wp2_with fail
  go_ret
  exact ⟨rfl, rfl⟩

set_option maxRecDepth 20000 in
theorem Append_full (w : World) (B : Nat) (own : Nat → Nat) (a g : Nat) (d : Dk) (m : PD) (h : DA w B own a g d m) (hr : 0 < m.room) (hw : m.down = false) (hm : m.few) (i : Nat) (hi : i < 8) (q : Option Addr) (l c : Nat) (hl : l ≤ 549755813888) (hu : m.room < m.used + l) (hrm : m.room ≤ 4194304) :
    Calls Tryz.prog 52 #[.pointer (some ⟨g, 0, none⟩), .int .i64 i, .slice q l c] w fun e w' => e = .returned (.int .i64 7) ∧ Below w.heap.size w w' := by
  have hb1 : Below w.heap.size w (w.alloc (.cells #[.slice q l c] 40)) := (Below.refl _ _).alloc (Nat.le_refl _) _
  have h1 := h.below hb1
  have hb2 : Below w.heap.size w ((w.alloc (.cells #[.slice q l c] 40)).alloc (.cells #[.pointer (some ⟨g, 2 + i * 3, none⟩)] 101)) := hb1.alloc (by simp) _
  have hF := file_ok (w.alloc (.cells #[.slice q l c] 40)) g d h1.dc (by rw [h.room]; exact hr) (h.down.trans hw) i hi
  have h2 := h.below hb2
  have hbb : ((w.alloc (.cells #[.slice q l c] 40)).alloc (.cells #[.pointer (some ⟨g, 2 + i * 3, none⟩)] 101)).cell? ⟨w.heap.size, 0, none⟩ = some (.slice q l c) := by simp
  have hre := h.room
  have hmu : m.used ≤ 4398046511104 := by
    have t0 := hm.told 0 (by decide)
    have t1 := hm.told 1 (by decide)
    have t2 := hm.told 2 (by decide)
    have t3 := hm.told 3 (by decide)
    have t4 := hm.told 4 (by decide)
    have t5 := hm.told 5 (by decide)
    have t6 := hm.told 6 (by decide)
    have t7 := hm.told 7 (by decide)
    unfold PD.used
    omega
  generalize hW2 : (w.alloc (.cells #[.slice q l c] 40)).alloc (.cells #[.pointer (some ⟨g, 2 + i * 3, none⟩)] 101) = w2 at *
  have hU : ∀ n, Calls Tryz.prog 84 #[.pointer (some ⟨g, 0, none⟩)] (w2.drewN n) fun e w' => e = .returned (.int .i64 m.used) ∧ w' = w2.drewN n := by
    intro n
    have h3 := h2.below (below_drewN (Below.refl w2.heap.size w2) n)
    have := used_any (w2.drewN n) g d h3.dc (by rw [h.room]; exact hr) (fun j hj => by rw [fl_tn h hj]; have := hm.told j hj; omega)
    rw [used_eq h3] at this
    exact this
  have hcr : w2.cell? ⟨g, 0, none⟩ = some (.int .i64 m.room) := by rw [← hre]; exact h2.dc.room
  clear h h1 h2 hm
  go_enter Tryz.func52, Tryz.ntmps52
  go_wp2_with fail
  refine hF.mono ?_
  rintro e w1 ⟨rfl, rfl⟩
  go_wp2_with fail
  go_quiet ((go_at_call 84; exact Calls.quiet_of_same (hU _)))
  go_wp2_with fail
  go_ret
  exact ⟨rfl, below_drewN hb2 _⟩

def PD.clearAt (m : PD) (i : Nat) : PD := m.act 1 fun _ => upP m.f i ⟨[], (m.f i).lasts, true⟩
def PD.syncAt (m : PD) (i : Nat) : PD := m.act 1 fun _ => upP m.f i ⟨(m.f i).told, (m.f i).told, false⟩
def PD.putAt (m : PD) (i : Nat) (b : List Int) : PD := m.act b.length fun n => upP m.f i { m.f i with told := (m.f i).told ++ b.take n }

/-- A disk with at most s bytes in each row. -/
structure PD.ok (m : PD) (s : Nat) : Prop where
  r0 : 0 < m.room
  r1 : m.room ≤ 4194304
  told : ∀ i, i < 8 → (m.f i).told.length ≤ s
  lasts : ∀ i, i < 8 → (m.f i).lasts.length ≤ s
  keep : m.keep.length ≤ 16384
  left : m.left ≤ 9223372036854775807

theorem PD.ok.few {m : PD} {s : Nat} (h : m.ok s) (hs : s ≤ 549755813888) : m.few :=
  ⟨fun i hi => Nat.le_trans (h.told i hi) hs, fun i hi => Nat.le_trans (h.lasts i hi) hs, Nat.le_trans h.keep (by decide), h.left⟩

theorem PD.ok.mono {m : PD} {s t : Nat} (h : m.ok s) (hs : s ≤ t) : m.ok t :=
  ⟨h.r0, h.r1, fun i hi => Nat.le_trans (h.told i hi) hs, fun i hi => Nat.le_trans (h.lasts i hi) hs, h.keep, h.left⟩

theorem rest_le {f : PF} {s : Nat} (h1 : f.told.length ≤ s) (h2 : f.lasts.length ≤ s) (k : Int) : (f.rest k).length ≤ s := by
  unfold PF.rest
  by_cases h : k < 0
  · rw [if_pos h]; exact h2
  · rw [if_neg h, List.length_take]; exact Nat.le_trans (Nat.min_le_right _ _) h1

theorem PD.ok.fall {m : PD} {s : Nat} (h : m.ok s) (keep : List Int) : (m.fall keep).ok s := by
  refine ⟨h.r0, h.r1, fun i hi => ?_, fun i hi => ?_, Nat.zero_le _, Nat.zero_le _⟩
  · show (fallN m.f keep 8 i).told.length ≤ s
    unfold fallN
    rw [if_pos hi]
    exact rest_le (h.told i hi) (h.lasts i hi) _
  · show (fallN m.f keep 8 i).lasts.length ≤ s
    unfold fallN
    rw [if_pos hi]
    exact rest_le (h.told i hi) (h.lasts i hi) _

theorem PD.ok.act {m : PD} {s : Nat} (h : m.ok s) (n : Nat) (X : Nat → Nat → PF) (hX : ∀ n i, i < 8 → (X n i).told.length ≤ s ∧ (X n i).lasts.length ≤ s) : (m.act n X).ok s := by
  unfold PD.act
  by_cases h0 : m.left = 0
  · rw [if_pos h0]
    exact ⟨h.r0, h.r1, fun i hi => (hX n i hi).1, fun i hi => (hX n i hi).2, h.keep, h.left⟩
  · rw [if_neg h0]
    by_cases h1 : m.left ≤ n
    · rw [if_pos h1]
      exact PD.ok.fall (m := { m with f := X m.left }) ⟨h.r0, h.r1, fun i hi => (hX _ i hi).1, fun i hi => (hX _ i hi).2, h.keep, h.left⟩ _
    · rw [if_neg h1]
      exact ⟨h.r0, h.r1, fun i hi => (hX n i hi).1, fun i hi => (hX n i hi).2, h.keep, Nat.le_trans (Nat.sub_le _ _) h.left⟩

theorem PD.ok.up {m : PD} {s t : Nat} (h : m.ok s) (hst : s ≤ t) (i : Nat) (x : PF) (h1 : x.told.length ≤ t) (h2 : x.lasts.length ≤ t) : ∀ j, j < 8 → (upP m.f i x j).told.length ≤ t ∧ (upP m.f i x j).lasts.length ≤ t := by
  intro j hj
  by_cases e : j = i
  · rw [e, upP_same]; exact ⟨h1, h2⟩
  · rw [upP_other _ _ e]; exact ⟨Nat.le_trans (h.told j hj) hst, Nat.le_trans (h.lasts j hj) hst⟩

theorem PD.ok.clearAt {m : PD} {s : Nat} (h : m.ok s) {i : Nat} (hi : i < 8) : (m.clearAt i).ok s :=
  h.act _ _ fun _ => h.up (Nat.le_refl _) i _ (Nat.zero_le _) (h.lasts i hi)
theorem PD.ok.syncAt {m : PD} {s : Nat} (h : m.ok s) {i : Nat} (hi : i < 8) : (m.syncAt i).ok s :=
  h.act _ _ fun _ => h.up (Nat.le_refl _) i _ (h.told i hi) (h.told i hi)
theorem PD.ok.putAt {m : PD} {s : Nat} (h : m.ok s) {i : Nat} (hi : i < 8) (b : List Int) : (m.putAt i b).ok (s + b.length) :=
  (h.mono (Nat.le_add_right _ _)).act _ _ fun n => h.up (Nat.le_add_right _ _) i _ (by
    dsimp only
    rw [List.length_append, List.length_take]
    have := h.told i hi
    omega) (by dsimp only; have := h.lasts i hi; omega)

end Go.Proofs.YtpjhadaiodnnaaaGreat.M
end

section
namespace Go.Proofs.YtpjhadaiodnnaaaGreat.M
open Go.ChangeShapes Go.WideShapes Go.ChangeAt Go.RowKit
set_option linter.unusedSimpArgs false

/-- A disk with power, of at most s bytes a row. -/
structure Fit (m : PD) (s : Nat) : Prop where
  ok : m.ok s
  up : m.down = false

theorem act_room (m : PD) (n : Nat) (X : Nat → Nat → PF) : (m.act n X).room = m.room := by
  unfold PD.act
  split
  · rfl
  · split <;> rfl

theorem act_up {m : PD} {n : Nat} {X : Nat → Nat → PF} (h : m.down = false) (hg : m.gone n = false) : (m.act n X).down = false := by
  unfold PD.gone at hg
  have hg := of_decide_eq_false hg
  unfold PD.act
  by_cases h0 : m.left = 0
  · rw [if_pos h0]; exact h
  · rw [if_neg h0, if_neg (by omega)]; exact h

theorem act_f {m : PD} {n : Nat} {X : Nat → Nat → PF} (hg : m.gone n = false) : (m.act n X).f = X n := by
  unfold PD.gone at hg
  have hg := of_decide_eq_false hg
  unfold PD.act
  by_cases h0 : m.left = 0
  · rw [if_pos h0]
  · rw [if_neg h0, if_neg (by omega)]

/-- What a disk is behind a write of a file, and what is answered. -/
def wrM (m : PD) (i : Nat) (bs : List Int) : PD × Int :=
  if m.gone 1 = true then (m.clearAt i, 50)
  else if m.room < (m.clearAt i).used + bs.length then (m.clearAt i, 7)
  else if (m.clearAt i).gone bs.length = true then ((m.clearAt i).putAt i bs, 50)
  else (((m.clearAt i).putAt i bs).syncAt i, goneE (((m.clearAt i).putAt i bs).gone 1))

theorem wrM_ok {m : PD} {s i : Nat} (h : m.ok s) (hi : i < 8) (bs : List Int) : (wrM m i bs).1.ok (s + bs.length) := by
  unfold wrM
  split
  · exact (h.clearAt hi).mono (Nat.le_add_right _ _)
  · split
    · exact (h.clearAt hi).mono (Nat.le_add_right _ _)
    · split
      · exact (h.clearAt hi).putAt hi bs
      · exact ((h.clearAt hi).putAt hi bs).syncAt hi

set_option maxRecDepth 20000 in
set_option maxHeartbeats 2000000 in
theorem write_any (w : World) (B : Nat) (own : Nat → Nat) (a g : Nat) (d : Dk) (m : PD) (s : Nat) (h : DA w B own a g d m) (hm : Fit m s) (hs : s ≤ 274877906944) (hB : B ≤ w.heap.size) (i : Nat) (hi : i < 8)
    (gt : Nat) (hT : w.cell? ⟨gt, 0, none⟩ = some (.pointer (some ⟨g, 0, none⟩))) (hgo : own gt ≠ mark a i) (hgg : gt ≠ g)
    (p : Option Addr) (n c : Nat) (bs : List Int) (hb : Rd .u8 w p n c bs) (hbo : ∀ x, p = some x → 0 < n → own x.block ≠ mark a i ∧ x.block ≠ g) (hl : n ≤ 274877906944) :
    Calls Tryz.prog 40 #[.pointer (some ⟨gt, 0, none⟩), .int .i64 i, .slice p n c] w fun e w' => e = .returned (.int .i64 (wrM m i bs).2) ∧ ∃ own2 d2, DA w' B own2 a g d2 (wrM m i bs).1 ∧ (∀ k, k < w.heap.size → own2 k = own k) ∧ Ch (fun k => k = g ∨ own k = mark a i) w w' := by
  have hr := hm.ok.r0
  have hrm := hm.ok.r1
  have hC := Clear_ok w B own a g d m h hr hm.up (hm.ok.few (by omega)) i hi
  have hgl : gt < w.heap.size := World.block_lt_of_cell? _ _ hT
  have hnS : ∀ k, own k ≠ mark a i → k ≠ g → ¬ (k = g ∨ own k = mark a i) := fun k h1 h2 e => e.elim h2 h1
  have hbl := hb.len
  have HC : Hid (Calls Tryz.prog 74 #[.pointer (some ⟨g, 0, none⟩), .int .i64 i] w fun e w' => e = .returned (.int .i64 (goneE (m.gone 1))) ∧ ∃ own2 d2, DA w' B own2 a g d2 (m.clearAt i) ∧ (∀ k, k < w.heap.size → own2 k = own k) ∧ Ch (fun k => k = g ∨ own k = mark a i) w w') := hC
  have HNS : Hid (∀ k, own k ≠ mark a i → k ≠ g → ¬ (k = g ∨ own k = mark a i)) := hnS
  clear hC hnS
  cases hg1 : m.gone 1 with
  | true =>
    have HW : Hid (wrM m i bs = (m.clearAt i, 50)) := by show wrM m i bs = _; unfold wrM; rw [if_pos hg1]
    rw [HW.out]
    rw [hg1] at HC
    clear hbl
    go_enter Tryz.func40, Tryz.ntmps40
    go_wp2_with fail
    refine HC.out.mono ?_
    rintro e w1 ⟨rfl, own1, d1, h1, ho1, hc1⟩
    show _
    clear HC
    unfold goneE
    rw [if_pos rfl]
    go_wp2_with fail
    go_ret
    exact ⟨rfl, own1, d1, h1, ho1, hc1⟩
  | false =>
    rw [hg1] at HC
    have hup1 : (m.clearAt i).down = false := act_up hm.up hg1
    have hok1 : (m.clearAt i).ok s := hm.ok.clearAt hi
    have hrm1 : (m.clearAt i).room = m.room := act_room _ _ _
    have HA : Hid (∀ (w1 : World) (own1 : Nat → Nat) (d1 : Dk), DA w1 B own1 a g d1 (m.clearAt i) → (∀ k, k < w.heap.size → own1 k = own k) → Ch (fun k => k = g ∨ own k = mark a i) w w1 → w1.cell? ⟨gt, 0, none⟩ = some (.pointer (some ⟨g, 0, none⟩)) ∧ Rd .u8 w1 p n c bs) := fun w1 own1 d1 h1 ho1 hc1 =>
      ⟨(hc1.cell hgl (HNS.out gt hgo hgg)).trans hT, hb.ch0 hc1 fun x e h0 => HNS.out _ (hbo x e h0).1 (hbo x e h0).2⟩
    by_cases hu : m.room < (m.clearAt i).used + bs.length
    · have HW : Hid (wrM m i bs = (m.clearAt i, 7)) := by show wrM m i bs = _; unfold wrM; rw [if_neg (by rw [hg1]; decide), if_pos hu]
      rw [HW.out]
      have HF : Hid (∀ (w1 : World) (own1 : Nat → Nat) (d1 : Dk), DA w1 B own1 a g d1 (m.clearAt i) → Calls Tryz.prog 52 #[.pointer (some ⟨g, 0, none⟩), .int .i64 i, .slice p n c] w1 fun e w' => e = .returned (.int .i64 7) ∧ Below w1.heap.size w1 w') := fun w1 own1 d1 h1 =>
        Append_full w1 B own1 a g d1 _ h1 hok1.r0 hup1 (hok1.few (by omega)) i hi p n c (by omega) (by rw [hrm1, ← hbl]; exact hu) hok1.r1
      clear hbl hu hok1 hup1 hrm1
      go_enter Tryz.func40, Tryz.ntmps40
      go_wp2_with fail
      refine HC.out.mono ?_
      rintro e w1 ⟨rfl, own1, d1, h1, ho1, hc1⟩
      clear HC
      obtain ⟨hT1, _⟩ := HA.out w1 own1 d1 h1 ho1 hc1
      have hF := HF.out w1 own1 d1 h1
      unfold goneE
      rw [if_neg (by decide)]
      go_wp2_with fail
      refine hF.mono ?_
      rintro e w2 ⟨rfl, hb2⟩
      clear hF HF HA
      go_wp2_with fail
      go_ret
      exact ⟨rfl, own1, d1, h1.below hb2, ho1, hc1.trans (Ch.of_below hb2 _)⟩
    · have HF : Hid (∀ (w1 : World) (own1 : Nat → Nat) (d1 : Dk), DA w1 B own1 a g d1 (m.clearAt i) → B ≤ w1.heap.size → Rd .u8 w1 p n c bs → Calls Tryz.prog 52 #[.pointer (some ⟨g, 0, none⟩), .int .i64 i, .slice p n c] w1 fun e w' => e = .returned (.int .i64 (goneE ((m.clearAt i).gone bs.length))) ∧ ∃ own2 d2, DA w' B own2 a g d2 ((m.clearAt i).putAt i bs) ∧ (∀ k, k < w1.heap.size → own2 k = own1 k) ∧ Ch (fun k => k = g ∨ own1 k = mark a i) w1 w') := fun w1 own1 d1 h1 hB1 hb1 => by
        have h2 := Append_gen w1 B own1 a g d1 _ h1 hok1.r0 hup1 (hok1.few (by omega)) hB1 i hi p n c bs hb1 (fun x e h0 => (hbo x e h0).2) (by omega) (by rw [hrm1, ← hbl]; omega) hok1.r1
        rw [hbl]
        unfold PD.putAt
        rw [hbl]
        exact h2
      have hnu : ¬ m.room < (m.clearAt i).used + bs.length := hu
      clear hu
      cases hg2 : (m.clearAt i).gone bs.length with
      | true =>
        have HW : Hid (wrM m i bs = ((m.clearAt i).putAt i bs, 50)) := by show wrM m i bs = _; unfold wrM; rw [if_neg (by rw [hg1]; decide), if_neg hnu, if_pos hg2]
        rw [HW.out]
        rw [hg2] at HF
        clear hbl hnu hok1 hup1 hrm1 hg2
        go_enter Tryz.func40, Tryz.ntmps40
        go_wp2_with fail
        refine HC.out.mono ?_
        rintro e w1 ⟨rfl, own1, d1, h1, ho1, hc1⟩
        clear HC
        obtain ⟨hT1, hb1⟩ := HA.out w1 own1 d1 h1 ho1 hc1
        have hF := HF.out w1 own1 d1 h1 (Nat.le_trans hB hc1.size) hb1
        unfold goneE
        rw [if_neg (by decide)]
        go_wp2_with fail
        refine hF.mono ?_
        rintro e w2 ⟨rfl, own2, d2, h2, ho2, hc2⟩
        clear hF HF HA
        unfold goneE
        rw [if_pos rfl]
        go_wp2_with fail
        go_ret
        exact ⟨rfl, own2, d2, h2, fun k hk => (ho2 k (Nat.lt_of_lt_of_le hk hc1.size)).trans (ho1 k hk), hc1.then hc2 (fun j hj e => e.imp id (fun e => by rw [← ho1 j hj]; exact e))⟩
      | false =>
        have HW : Hid (wrM m i bs = (((m.clearAt i).putAt i bs).syncAt i, goneE (((m.clearAt i).putAt i bs).gone 1))) := by show wrM m i bs = _; unfold wrM; rw [if_neg (by rw [hg1]; decide), if_neg hnu, if_neg (by rw [hg2]; decide)]
        rw [HW.out]
        rw [hg2] at HF
        have hup2 : ((m.clearAt i).putAt i bs).down = false := act_up hup1 hg2
        have hok2 : ((m.clearAt i).putAt i bs).ok (s + bs.length) := hok1.putAt hi bs
        have HS : Hid (∀ (w1 : World) (own1 : Nat → Nat) (d1 : Dk), DA w1 B own1 a g d1 ((m.clearAt i).putAt i bs) → Calls Tryz.prog 36 #[.pointer (some ⟨g, 0, none⟩), .int .i64 i] w1 fun e w' => e = .returned (.int .i64 (goneE (((m.clearAt i).putAt i bs).gone 1))) ∧ ∃ own2 d2, DA w' B own2 a g d2 (((m.clearAt i).putAt i bs).syncAt i) ∧ (∀ k, k < w1.heap.size → own2 k = own1 k) ∧ Ch (fun k => k = g ∨ own1 k = mark a i) w1 w') := fun w1 own1 d1 h1 =>
          Sync_ok w1 B own1 a g d1 _ h1 hok2.r0 hup2 (hok2.few (by omega)) i hi
        obtain ⟨c3, Hc3⟩ : ∃ z, Hid (z = goneE (((m.clearAt i).putAt i bs).gone 1)) := ⟨_, rfl⟩
        rw [← Hc3.out] at HS ⊢
        clear hbl hnu hok1 hup1 hrm1 hg2 hup2 hok2
        go_enter Tryz.func40, Tryz.ntmps40
        go_wp2_with fail
        refine HC.out.mono ?_
        rintro e w1 ⟨rfl, own1, d1, h1, ho1, hc1⟩
        clear HC
        obtain ⟨hT1, hb1⟩ := HA.out w1 own1 d1 h1 ho1 hc1
        have hF := HF.out w1 own1 d1 h1 (Nat.le_trans hB hc1.size) hb1
        unfold goneE
        rw [if_neg (by decide)]
        go_wp2_with fail
        refine hF.mono ?_
        rintro e w2 ⟨rfl, own2, d2, h2, ho2, hc2⟩
        clear hF HF HA
        have hcc2 := hc1.then hc2 (fun j hj e => e.imp id (fun e => by rw [← ho1 j hj]; exact e))
        have ho2' : ∀ k, k < w.heap.size → own2 k = own k := fun k hk => (ho2 k (Nat.lt_of_lt_of_le hk hc1.size)).trans (ho1 k hk)
        have hT2 : w2.cell? ⟨gt, 0, none⟩ = some (.pointer (some ⟨g, 0, none⟩)) := (hcc2.cell hgl (HNS.out gt hgo hgg)).trans hT
        have hS := HS.out w2 own2 d2 h2
        clear ho2 hc2 hT1 hb1 hT
        unfold goneE
        rw [if_neg (by decide)]
        go_wp2_with fail
        refine hS.mono ?_
        rintro e w3 ⟨rfl, own3, d3, h3, ho3, hc3⟩
        clear hS HS
        have hcc3 := hcc2.then hc3 (fun j hj e => e.imp id (fun e => by rw [← ho2' j hj]; exact e))
        go_wp2_with fail
        go_ret
        exact ⟨rfl, own3, d3, h3, fun k hk => (ho3 k (Nat.lt_of_lt_of_le hk hcc2.size)).trans (ho2' k hk), hcc3⟩

end Go.Proofs.YtpjhadaiodnnaaaGreat.M
end

section
namespace Go.Proofs.YtpjhadaiodnnaaaGreat.M
open Go.ChangeShapes Go.WideShapes Go.ChangeAt Go.RowKit
set_option linter.unusedSimpArgs false

/-- What Save leaves: the disk mz, and the tape as it was or with its next reel. -/
def SvPost (B : Nat) (own : Nat → Nat) (a g gt : Nat) (t : TP) (pb : Option Addr) (nb cb : Nat) (pr : Option Addr) (cr : Nat) (vs : List Value) (nl : Nat) (nx : PR) (mz : PD) (cz : Int) (w w' : World) : Prop :=
  ∃ own2 d2, DA w' B own2 a g d2 mz ∧ (∀ k, k < w.heap.size → own2 k = own k) ∧ Ch (fun k => k = g ∨ k = gt ∨ own k = mark a (1 - t.file)) w w' ∧ ((cz = 0 ∧ ∃ qb mb db qr dr us2, TB w' own2 g gt ⟨1 - t.file, nl, nx⟩ qb mb db qr dr us2 ∧ TO w' own2 w.heap.size g gt ⟨1 - t.file, nl, nx⟩ qb mb db qr dr us2) ∨ (cz ≠ 0 ∧ TB w' own2 g gt t pb nb cb pr cr vs))

theorem sealR_len {r : PR} (h : r.ok) : (sealR r).length ≤ 8206000000 + 8206 := by
  unfold sealR
  rw [List.length_append]
  have h1 := sealL_len_le (headR_ok h).2
  have h2 := flat_len (l := r.recs) (fun i hi => (h.recs i hi).2) r.recs.length (Nat.le_refl _)
  rw [List.take_length] at h2
  have h3 := h.few
  omega

set_option maxRecDepth 20000 in
set_option maxHeartbeats 8000000 in
theorem Save_any (w : World) (B : Nat) (own : Nat → Nat) (a g : Nat) (d : Dk) (m : PD) (ha : a ≤ 100) (h : DA w B own a g d m) (s : Nat) (hm : Fit m s) (hs : s ≤ 274877906944) (hB : B ≤ w.heap.size) (gt : Nat) (t : TP) (pb : Option Addr) (nb cb : Nat) (pr : Option Addr) (cr : Nat) (vs : List Value) (hT : TB w own g gt t pb nb cb pr cr vs) (hfile : t.file ≤ 1) (hgen : 0 ≤ t.r.gen ∧ t.r.gen < 1099511627776)
    (pa : Option Addr) (na ca : Nat) (base : List Int) (hpa : Rd .u8 w pa na ca base) (hby : By base) (hna : na ≤ 8176) (pl : Option Addr) (nl cl : Nat) (us : List Value) (recs : List (List Int)) (hpl : RdV w pl nl cl us) (hus : Sls w us recs) (hnl : nl = recs.length) (hfew : nl ≤ 1000000) (hrec : ∀ i, i < recs.length → By (recs.getD i []) ∧ (recs.getD i []).length ≤ 8192) :
    Calls Tryz.prog 14 #[.pointer (some ⟨gt, 0, none⟩), .slice pa na ca, .slice pl nl cl] w fun e w' => e = .returned (.int .i64 (wrM m (1 - t.file) (sealR ⟨t.r.gen + 1, base, recs⟩)).2) ∧ SvPost B own a g gt t pb nb cb pr cr vs nl ⟨t.r.gen + 1, base, recs⟩ (wrM m (1 - t.file) (sealR ⟨t.r.gen + 1, base, recs⟩)).1 (wrM m (1 - t.file) (sealR ⟨t.r.gen + 1, base, recs⟩)).2 w w' := by
  have HN : Hid (nl = recs.length) := hnl
  obtain ⟨cz, HCZ⟩ : ∃ z, Hid (z = (wrM m (1 - t.file) (sealR ⟨t.r.gen + 1, base, recs⟩)).2) := ⟨_, rfl⟩
  obtain ⟨mz, HMZ⟩ : ∃ z, Hid (z = (wrM m (1 - t.file) (sealR ⟨t.r.gen + 1, base, recs⟩)).1) := ⟨_, rfl⟩
  rw [← HCZ.out, ← HMZ.out]
  have hgl : g < w.heap.size := h.dc.lt
  have hgtl : gt < w.heap.size := hT.blk.lt
  have hM := tmade_yes w gt g (hT.blk.cell 0)
  have c3 := hT.blk.cell 3
  have hF := fits_any pa na ca pl nl cl us recs w hpl hus hnl hfew
  have hfit : fitsR na recs = true := by unfold fitsR; rw [decide_eq_true hna, Bool.true_and]; exact shortV_yes fun i hi => (hrec i hi).2
  rw [hfit] at hF
  have hge : decide ((1099511627776 : Int) ≤ t.r.gen) = false := decide_eq_false (by omega)
  have hi8 : 1 - t.file < 8 := by omega
  have hok : PR.ok ⟨t.r.gen + 1, base, recs⟩ := ⟨by show 0 ≤ t.r.gen + 1 ∧ t.r.gen + 1 ≤ 1099511627776; omega, ⟨by show base.length ≤ 8176; rw [hpa.len]; exact hna, hby⟩, by show recs.length ≤ 1000000; rw [← HN.out]; exact hfew, hrec⟩
  clear hfit hnl
  go_enter Tryz.func14, Tryz.ntmps14
  go_wp2_with fail
  refine hM.mono ?_
  rintro e w0 ⟨rfl, hw0⟩
  subst hw0
  clear hM
  go_wp2_with fail
  refine hF.mono ?_
  rintro e w1 ⟨rfl, hb1⟩
  clear hF
  have hFo := follow_any w1 gt t.r.gen (cell_below hb1 c3) hgen pa na ca base (hpa.below hb1) (by omega) pl nl cl us recs (hpl.below hb1) (hus.below hb1) HN.out hfew (fun i hi => (hrec i hi).2)
  clear c3
  go_wp2_with fail
  refine hFo.mono ?_
  rintro e w2 ⟨⟨v, rfl, qb, mb, db, qr, dr, us2, rfl, hO2, hV2, hS2⟩, hb2⟩
  dsimp only at hO2 hV2 hS2
  obtain ⟨nr, HNR⟩ : ∃ z, z = recs.length := ⟨_, rfl⟩
  rw [← HNR] at hV2
  dsimp only
  rw [← HNR]
  have HNR2 : Hid (nr = recs.length) := HNR
  clear HNR hFo
  have hb12 := hb1.trans (hb2.mono hb1.size)
  have hba3 := below_alloc w2 (.cells #[.int .i64 (t.r.gen + 1), .slice qb mb db, .slice qr nr dr] 79)
  have hG3 := At.new 79 w2 #[.int .i64 (t.r.gen + 1), .slice qb mb db, .slice qr nr dr]
  have hb3 := hb12.trans (hba3.mono hb12.size)
  have hO3 := hO2.below hba3
  have hV3 := hV2.below hba3
  have hS3 := hS2.below hba3
  have hgb : w0.heap.size ≤ w2.heap.size := hb12.size
  have hT3 := hT.below hb3
  have hOt := other_any _ gt t.file hfile (hT3.blk.cell 1)
  have hSe := sealed_any _ w2.heap.size ⟨t.r.gen + 1, base, recs⟩ hok qb mb db qr dr us2 (by show At 79 _ _ #[.int .i64 (t.r.gen + 1), .slice qb mb db, .slice qr recs.length dr]; rw [← HNR2.out]; exact hG3) hO3.rd (by show RdV _ _ recs.length _ _; rw [← HNR2.out]; exact hV3.rd) hS3.sls
  go_wp2_with fail
  refine hOt.mono ?_
  rintro e w3 ⟨rfl, hw3⟩
  subst hw3
  go_wp2_with fail
  refine hSe.mono ?_
  rintro e w4 ⟨⟨ps, ns, cs, rfl, hOs⟩, hb4⟩
  clear hOt hSe
  have hb04 := hb3.trans (hb4.mono hb3.size)
  have hD4 := h.marked hb04
  have hG4 := hG3.below hb4
  have hO4 := hO3.below hb4
  have hV4 := hV3.below hb4
  have hS4 := hS3.below hb4
  have hT4 := hT.blk.below hb04
  have hogt : farO own w0.heap.size w4.heap.size gt = farM := (farO_low hgtl).trans hT.fg.1
  have hns : ns = (sealR ⟨t.r.gen + 1, base, recs⟩).length := hOs.len.symm
  have hWr := write_any w4 B _ a g d m s hD4 hm hs (Nat.le_trans hB hb04.size) (1 - t.file) hi8 gt (hT4.cell 0) (by rw [hogt]; exact far_mark ha hi8) hT.fg.2 ps ns cs _ hOs.rd (fun x e h0 => by
    have h1 := hOs.fre (w := w0) (own := own) (g := g) (hi := w4.heap.size) (Nat.le_refl _) hgl hb3.size x e (Nat.lt_of_lt_of_le h0 hOs.cap)
    exact ⟨by rw [h1.1.1]; exact far_mark ha hi8, h1.1.2⟩) (by rw [hns]; exact Nat.le_trans (sealR_len hok) (by decide))
  rw [← HCZ.out, ← HMZ.out] at hWr
  have hgb4 : w2.heap.size < w4.heap.size := hG4.lt
  obtain ⟨gb, hgbe⟩ : ∃ z, z = w2.heap.size := ⟨_, rfl⟩
  rw [← hgbe] at hG4 hgb hgb4 ⊢
  have HGB : Hid (gb = w2.heap.size) := hgbe
  have HGB4 : Hid (gb < w4.heap.size) := hgb4
  have HGBL : Hid (w0.heap.size ≤ gb) := hgb
  clear hgbe hns hgb4 hgb
  go_wp2_with fail
  refine hWr.mono ?_
  rintro e w6 ⟨rfl, own5, d5, hD5, ho5, hc5⟩
  clear hWr
  by_cases hcz : cz = 0
  · clear HCZ
    subst hcz
    have hfgb : Fre (farO own w0.heap.size w4.heap.size) g gb := ⟨farO_in HGBL.out HGB4.out, by have := HGBL.out; omega⟩
    have hG6 := hG4.ch hc5 (hfgb.not ha hi8)
    have hT6 := hT4.ch hc5 (Fre.not (g := g) ⟨hogt, hT.fg.2⟩ ha hi8)
    have hgbt : gb ≠ gt := by have := HGBL.out; omega
    have hS6 : Sv w6 gt gb #[.pointer (some ⟨g, 0, none⟩), .int .i64 t.file, .int .i64 t.kept, .int .i64 t.r.gen, .slice pb nb cb, .slice pr t.r.recs.length cr] (t.r.gen + 1) qb mb db qr nr dr w6.drew := Sv.stays _ _ _ _ _ _ _ _ _ _ _ w6 _ ⟨hT6, hG6, Ex.refl _ _⟩ ((Below.refl _ _).drew)
    have HNL : Hid (nl = nr) := by show _ = _; rw [HNR2.out]; exact HN.out
    rw [HNL.out]
    clear hG4 hT4 hD4
    go_wp2_with fail
    refine wp_region_det [0, 1, 2, 3, 4, 6, 7] (fun W => W.rangeAt gb 0 [.int .i64 (t.r.gen + 1), .slice qb mb db, .slice qr nr dr]) (Sv w6 gt gb #[.pointer (some ⟨g, 0, none⟩), .int .i64 t.file, .int .i64 t.kept, .int .i64 t.r.gen, .slice pb nb cb, .slice pr t.r.recs.length cr] (t.r.gen + 1) qb mb db qr nr dr) (by kernel_rfl) hS6 ?_
    refine wpDet_take ?vA0 (Sv.stays _ _ _ _ _ _ _ _ _ _ _) (fun W h => h.rg) (i := 0) rfl (by kernel_rfl) (by kernel_rfl) (by kernel_rfl) (by kernel_rfl) (fun _ _ _ h => h) (Gives.value (by rfl) ?yA0) ?rA0
    case yA0 => (intro w' hSw; go_simp; try with_reducible rfl)
    (try simp only [Act.put, List.getElem_toArray, List.getElem_cons_zero, List.getElem_cons_succ, List.setIfInBounds_toArray, List.set_cons_zero, List.set_cons_succ])
    refine wpDet_take ?vA1 (Sv.stays _ _ _ _ _ _ _ _ _ _ _) (fun W h => h.rg) (i := 1) rfl (by kernel_rfl) (by kernel_rfl) (by kernel_rfl) (by kernel_rfl) (fun _ _ _ h => h) (Gives.value (by rfl) ?yA1) ?rA1
    case yA1 => (intro w' hSw; go_simp; try with_reducible rfl)
    (try simp only [Act.put, List.getElem_toArray, List.getElem_cons_zero, List.getElem_cons_succ, List.setIfInBounds_toArray, List.set_cons_zero, List.set_cons_succ])
    refine wpDet_take ?vA2 (Sv.stays _ _ _ _ _ _ _ _ _ _ _) (fun W h => h.rg) (i := 2) rfl (by kernel_rfl) (by kernel_rfl) (by kernel_rfl) (by kernel_rfl) (fun _ _ _ h => h) (Gives.value (by rfl) ?yA2) ?rA2
    case yA2 => (intro w' hSw; go_simp; try with_reducible rfl)
    (try simp only [Act.put, List.getElem_toArray, List.getElem_cons_zero, List.getElem_cons_succ, List.setIfInBounds_toArray, List.set_cons_zero, List.set_cons_succ])
    refine wpDet_take _ (Sv.stays _ _ _ _ _ _ _ _ _ _ _) (fun W h => h.rg) (i := 3) rfl (by kernel_rfl) (by kernel_rfl) (by kernel_rfl) (by kernel_rfl) (fun _ _ _ h => h) (Gives.of_yields (yieldsIf_load_mid (by rfl) _ _ rfl _ _ rfl _ _ (fun W h => h) Tryz.underlying79 rfl sizeR)) ?_
    (try simp only [Act.put, List.getElem_toArray, List.getElem_cons_zero, List.getElem_cons_succ, List.setIfInBounds_toArray, List.set_cons_zero, List.set_cons_succ])
    refine wpDet_take ?vA4 (Sv.stays _ _ _ _ _ _ _ _ _ _ _) (fun W h => h.rg) (i := 4) rfl (by kernel_rfl) (by kernel_rfl) (by kernel_rfl) (by kernel_rfl) (fun _ _ _ h => h) (Gives.value (by rfl) ?yA4) ?rA4
    case yA4 => (intro w' hSw; go_simp; try with_reducible rfl)
    (try simp only [Act.put, List.getElem_toArray, List.getElem_cons_zero, List.getElem_cons_succ, List.setIfInBounds_toArray, List.set_cons_zero, List.set_cons_succ])
    refine wpDet_take ?vA6 (Sv.stays _ _ _ _ _ _ _ _ _ _ _) (fun W h => h.rg) (i := 6) rfl (by kernel_rfl) (by kernel_rfl) (by kernel_rfl) (by kernel_rfl) (fun _ _ _ h => h) (Gives.value (by rfl) ?yA6) ?rA6
    case yA6 => (intro w' hSw; go_simp; try with_reducible rfl)
    (try simp only [Act.put, List.getElem_toArray, List.getElem_cons_zero, List.getElem_cons_succ, List.setIfInBounds_toArray, List.set_cons_zero, List.set_cons_succ])
    refine wpDet_take ?vA7 (Sv.stays _ _ _ _ _ _ _ _ _ _ _) (fun W h => h.rg) (i := 7) rfl (by kernel_rfl) (by kernel_rfl) (by kernel_rfl) (by kernel_rfl) (fun _ _ _ h => h) (Gives.value (by rfl) ?yA7) ?rA7
    case yA7 => (intro w' hSw; go_simp; try with_reducible rfl)
    (try simp only [Act.put, List.getElem_toArray, List.getElem_cons_zero, List.getElem_cons_succ, List.setIfInBounds_toArray, List.set_cons_zero, List.set_cons_succ])
    refine wpDet_ready (rs := [5]) (by kernel_rfl) (by simp) (AllDet.cons rfl (fun V hV K hK => ?_) AllDet.nil)
    rw [if_pos (by rfl)]
    have hC := other_any V gt t.file hfile (hV.at0.cell 1)
    refine wp_enterX 41 #[.pointer (some ⟨gt, 0, none⟩)] (by first | (go_simp; done) | (go_simp; rfl)) (fun v V' => v = .int .i64 ((1 - t.file : Nat) : Int) ∧ V' = V) (hC.mono fun e V' ⟨h1, h2⟩ => ⟨_, h1, rfl, h2⟩) ?_
    rintro v V' ⟨rfl, rfl⟩
    refine hK.out (Sv w6 gt gb #[.pointer (some ⟨g, 0, none⟩), .int .i64 t.file, .int .i64 t.kept, .int .i64 t.r.gen, .slice pb nb cb, .slice pr t.r.recs.length cr] (t.r.gen + 1) qb mb db qr nr dr) _ _ (Sv.stays _ _ _ _ _ _ _ _ _ _ _) (fun _ W h => h.rg) hV ?_
    clear hK K hC hV
    (try simp only [Act.put, List.getElem_toArray, List.getElem_cons_zero, List.getElem_cons_succ, List.setIfInBounds_toArray, List.set_cons_zero, List.set_cons_succ])
    refine wpDet_ready (rs := [8]) (by kernel_rfl) (by simp) (AllDet.cons rfl (fun V hV K hK => ?_) AllDet.nil)
    rw [if_pos (by rfl)]
    refine wp_value (.pointer (some ⟨gt, 0, none⟩)) V (by first | (go_simp; done) | (go_simp; rfl)) ?_
    refine hK.out (Sv w6 gt gb #[.pointer (some ⟨g, 0, none⟩), .int .i64 t.file, .int .i64 t.kept, .int .i64 t.r.gen, .slice pb nb cb, .slice pr t.r.recs.length cr] (t.r.gen + 1) qb mb db qr nr dr) _ _ (Sv.stays _ _ _ _ _ _ _ _ _ _ _) (fun _ W h => h.rg) hV ?_
    clear hK K hV
    (try simp only [Act.put, List.getElem_toArray, List.getElem_cons_zero, List.getElem_cons_succ, List.setIfInBounds_toArray, List.set_cons_zero, List.set_cons_succ])
    refine wpDet_ready (rs := [9]) (by kernel_rfl) (by simp) (AllDet.cons rfl (fun V hV K hK => ?_) AllDet.nil)
    rw [if_pos (by rfl)]
    refine wp_value (.pointer (some ⟨gt, 3, none⟩)) V (by first | (go_simp; done) | (go_simp; rfl)) ?_
    refine hK.out (Sv w6 gt gb #[.pointer (some ⟨g, 0, none⟩), .int .i64 t.file, .int .i64 t.kept, .int .i64 t.r.gen, .slice pb nb cb, .slice pr t.r.recs.length cr] (t.r.gen + 1) qb mb db qr nr dr) _ _ (Sv.stays _ _ _ _ _ _ _ _ _ _ _) (fun _ W h => h.rg) hV ?_
    clear hK K hV
    (try simp only [Act.put, List.getElem_toArray, List.getElem_cons_zero, List.getElem_cons_succ, List.setIfInBounds_toArray, List.set_cons_zero, List.set_cons_succ])
    refine wpDet_ready (rs := [10]) (by kernel_rfl) (by simp) (AllDet.cons rfl (fun V hV K hK => ?_) AllDet.nil)
    rw [if_pos (by rfl)]
    have hth : V.there gt 3 3 := fun j hj => by
      refine ⟨?_, hV.at0.free (3 + j)⟩
      match j, hj with
      | 0, _ => rw [hV.at0.cell 3]; rfl
      | 1, _ => rw [hV.at0.cell 4]; rfl
      | 2, _ => rw [hV.at0.cell 5]; rfl
    refine wp_store_mid 79 _ _ rfl gt 3 #[.int .i64 (t.r.gen + 1), .slice qb mb db, .slice qr nr dr] rfl rfl hth sizeR (by simp [Value.oneCell']) ?_
    have hz : (Sv w6 gt gb #[.pointer (some ⟨g, 0, none⟩), .int .i64 t.file, .int .i64 t.kept, .int .i64 (t.r.gen + 1), .slice qb mb db, .slice qr nr dr] (t.r.gen + 1) qb mb db qr nr dr) (V.setCells gt 3 (#[.int .i64 (t.r.gen + 1), .slice qb mb db, .slice qr nr dr] : Array Value).toList) := hV.put (((Ex.refl gt V).setCell 3 _).setCell 4 _ |>.setCell 5 _) (At.put345 hV.at0 _ _ _) hgbt
    refine hK.out (Sv w6 gt gb #[.pointer (some ⟨g, 0, none⟩), .int .i64 t.file, .int .i64 t.kept, .int .i64 (t.r.gen + 1), .slice qb mb db, .slice qr nr dr] (t.r.gen + 1) qb mb db qr nr dr) _ _ (Sv.stays _ _ _ _ _ _ _ _ _ _ _) (fun _ W h => h.rg) hz ?_
    clear hK K hV hth hz
    (try simp only [Act.put, List.getElem_toArray, List.getElem_cons_zero, List.getElem_cons_succ, List.setIfInBounds_toArray, List.set_cons_zero, List.set_cons_succ])
    refine wpDet_ready (rs := [11]) (by kernel_rfl) (by simp) (AllDet.cons rfl (fun V hV K hK => ?_) AllDet.nil)
    rw [if_pos (by rfl)]
    refine wp_value (.pointer (some ⟨gt, 0, none⟩)) V (by first | (go_simp; done) | (go_simp; rfl)) ?_
    refine hK.out (Sv w6 gt gb #[.pointer (some ⟨g, 0, none⟩), .int .i64 t.file, .int .i64 t.kept, .int .i64 (t.r.gen + 1), .slice qb mb db, .slice qr nr dr] (t.r.gen + 1) qb mb db qr nr dr) _ _ (Sv.stays _ _ _ _ _ _ _ _ _ _ _) (fun _ W h => h.rg) hV ?_
    clear hK K hV
    (try simp only [Act.put, List.getElem_toArray, List.getElem_cons_zero, List.getElem_cons_succ, List.setIfInBounds_toArray, List.set_cons_zero, List.set_cons_succ])
    refine wpDet_ready (rs := [12]) (by kernel_rfl) (by simp) (AllDet.cons rfl (fun V hV K hK => ?_) AllDet.nil)
    rw [if_pos (by rfl)]
    refine wp_value (.pointer (some ⟨gt, 1, none⟩)) V (by first | (go_simp; done) | (go_simp; rfl)) ?_
    refine hK.out (Sv w6 gt gb #[.pointer (some ⟨g, 0, none⟩), .int .i64 t.file, .int .i64 t.kept, .int .i64 (t.r.gen + 1), .slice qb mb db, .slice qr nr dr] (t.r.gen + 1) qb mb db qr nr dr) _ _ (Sv.stays _ _ _ _ _ _ _ _ _ _ _) (fun _ W h => h.rg) hV ?_
    clear hK K hV
    (try simp only [Act.put, List.getElem_toArray, List.getElem_cons_zero, List.getElem_cons_succ, List.setIfInBounds_toArray, List.set_cons_zero, List.set_cons_succ])
    refine wpDet_ready (rs := [13]) (by kernel_rfl) (by simp) (AllDet.cons rfl (fun V hV K hK => ?_) AllDet.nil)
    rw [if_pos (by rfl)]
    refine wp_store_one _ _ _ rfl gt 1 (.int .i64 ((1 - t.file : Nat) : Int)) rfl rfl _ rfl rfl sizeI (hV.at0.cell 1) (hV.at0.free 1) ?_
    have hz : (Sv w6 gt gb #[.pointer (some ⟨g, 0, none⟩), .int .i64 ((1 - t.file : Nat) : Int), .int .i64 t.kept, .int .i64 (t.r.gen + 1), .slice qb mb db, .slice qr nr dr] (t.r.gen + 1) qb mb db qr nr dr) (V.setCell ⟨gt, 1, none⟩ (.int .i64 ((1 - t.file : Nat) : Int))) := hV.put ((Ex.refl gt V).setCell 1 _) (heap_setCell_same V gt 1 _ _ _ hV.at0) hgbt
    refine hK.out (Sv w6 gt gb #[.pointer (some ⟨g, 0, none⟩), .int .i64 ((1 - t.file : Nat) : Int), .int .i64 t.kept, .int .i64 (t.r.gen + 1), .slice qb mb db, .slice qr nr dr] (t.r.gen + 1) qb mb db qr nr dr) _ _ (Sv.stays _ _ _ _ _ _ _ _ _ _ _) (fun _ W h => h.rg) hz ?_
    clear hK K hV hz
    (try simp only [Act.put, List.getElem_toArray, List.getElem_cons_zero, List.getElem_cons_succ, List.setIfInBounds_toArray, List.set_cons_zero, List.set_cons_succ])
    refine wpDet_ready (rs := [14]) (by kernel_rfl) (by simp) (AllDet.cons rfl (fun V hV K hK => ?_) AllDet.nil)
    rw [if_pos (by rfl)]
    refine wp_value (.pointer (some ⟨gt, 0, none⟩)) V (by first | (go_simp; done) | (go_simp; rfl)) ?_
    refine hK.out (Sv w6 gt gb #[.pointer (some ⟨g, 0, none⟩), .int .i64 ((1 - t.file : Nat) : Int), .int .i64 t.kept, .int .i64 (t.r.gen + 1), .slice qb mb db, .slice qr nr dr] (t.r.gen + 1) qb mb db qr nr dr) _ _ (Sv.stays _ _ _ _ _ _ _ _ _ _ _) (fun _ W h => h.rg) hV ?_
    clear hK K hV
    (try simp only [Act.put, List.getElem_toArray, List.getElem_cons_zero, List.getElem_cons_succ, List.setIfInBounds_toArray, List.set_cons_zero, List.set_cons_succ])
    refine wpDet_ready (rs := [15]) (by kernel_rfl) (by simp) (AllDet.cons rfl (fun V hV K hK => ?_) AllDet.nil)
    rw [if_pos (by rfl)]
    refine wp_value (.pointer (some ⟨gt, 2, none⟩)) V (by first | (go_simp; done) | (go_simp; rfl)) ?_
    refine hK.out (Sv w6 gt gb #[.pointer (some ⟨g, 0, none⟩), .int .i64 ((1 - t.file : Nat) : Int), .int .i64 t.kept, .int .i64 (t.r.gen + 1), .slice qb mb db, .slice qr nr dr] (t.r.gen + 1) qb mb db qr nr dr) _ _ (Sv.stays _ _ _ _ _ _ _ _ _ _ _) (fun _ W h => h.rg) hV ?_
    clear hK K hV
    (try simp only [Act.put, List.getElem_toArray, List.getElem_cons_zero, List.getElem_cons_succ, List.setIfInBounds_toArray, List.set_cons_zero, List.set_cons_succ])
    refine wpDet_ready (rs := [16]) (by kernel_rfl) (by simp) (AllDet.cons rfl (fun V hV K hK => ?_) AllDet.nil)
    rw [if_pos (by rfl)]
    refine wp_store_one _ _ _ rfl gt 2 (.int .i64 nr) rfl rfl _ rfl rfl sizeI (hV.at0.cell 2) (hV.at0.free 2) ?_
    have hz : (Sv w6 gt gb #[.pointer (some ⟨g, 0, none⟩), .int .i64 ((1 - t.file : Nat) : Int), .int .i64 nr, .int .i64 (t.r.gen + 1), .slice qb mb db, .slice qr nr dr] (t.r.gen + 1) qb mb db qr nr dr) (V.setCell ⟨gt, 2, none⟩ (.int .i64 nr)) := hV.put ((Ex.refl gt V).setCell 2 _) (heap_setCell_same V gt 2 _ _ _ hV.at0) hgbt
    refine hK.out (Sv w6 gt gb #[.pointer (some ⟨g, 0, none⟩), .int .i64 ((1 - t.file : Nat) : Int), .int .i64 nr, .int .i64 (t.r.gen + 1), .slice qb mb db, .slice qr nr dr] (t.r.gen + 1) qb mb db qr nr dr) _ _ (Sv.stays _ _ _ _ _ _ _ _ _ _ _) (fun _ W h => h.rg) hz ?_
    clear hK K hV hz
    (try simp only [Act.put, List.getElem_toArray, List.getElem_cons_zero, List.getElem_cons_succ, List.setIfInBounds_toArray, List.set_cons_zero, List.set_cons_succ])
    refine wpDet_done (by kernel_rfl) (fun W7 hW7 => ?_) _
    have hw1 : w0.heap.size ≤ w1.heap.size := hb1.size
    have hnS : ∀ k, w1.heap.size ≤ k → k < w4.heap.size → ¬ (k = g ∨ farO own w0.heap.size w4.heap.size k = mark a (1 - t.file)) := fun k h1 h2 => Fre.not (own := farO own w0.heap.size w4.heap.size) (g := g) ⟨farO_in (Nat.le_trans hw1 h1) h2, by omega⟩ ha hi8
    have hCx := Ch.of_ex hW7.ex
    have hnX : ∀ k, w1.heap.size ≤ k → k < w6.heap.size → ¬ (k = gt) := fun k h1 _ => by omega
    have hO7 := (hO4.chB hc5 hnS).chB hCx hnX
    have hV7 := (hV4.chB hc5 hnS).chB hCx hnX
    have hS7 := (hS4.chB hc5 hnS).chB hCx hnX
    have how : own5 gt = farM := (ho5 gt (Nat.lt_of_lt_of_le hgtl hb04.size)).trans hogt
    have hD7 := hD5.exF ha hW7.ex how hT.fg.2
    have hA7 := hW7.at0
    have hc7 : Ch (fun k => k = g ∨ k = gt ∨ own k = mark a (1 - t.file)) w0 W7 := ((Ch.of_below hb04 (fun k => k = g ∨ k = gt ∨ own k = mark a (1 - t.file))).then hc5 (fun k hk e => e.elim Or.inl (fun e => Or.inr (Or.inr (by rw [farO_low hk] at e; exact e))))).then hCx (fun k _ e => Or.inr (Or.inl e))
    have hn5 : ∀ k, k < w0.heap.size → own5 k = own k := fun k hk => (ho5 k (Nat.lt_of_lt_of_le hk hb04.size)).trans (farO_low hk)
    have hTO : TO W7 own5 w0.heap.size g gt ⟨1 - t.file, nl, ⟨t.r.gen + 1, base, recs⟩⟩ qb mb db qr dr us2 := by
      refine ⟨hO7.lower hw1, fun x e h0 => ?_, ?_, fun x e h0 => ?_, hS7.lower hw1, fun i q m d hi e x ex h0 => ?_⟩
      · have h1 := hO4.fre (w := w0) (own := own) (g := g) (hi := w4.heap.size) (Nat.le_refl _) hgl hw1 x e h0
        exact ⟨h1.1.to h1.2.2 ho5, by omega⟩
      · show OwG 40 W7 w0.heap.size qr recs.length dr us2
        rw [← HNR2.out]
        exact (hV7.lowerB hw1).g
      · have h1 := hV4.fre (w := w0) (own := own) (g := g) (hi := w4.heap.size) (Nat.le_refl _) hgl hw1 x e h0
        exact ⟨h1.1.to h1.2.2 ho5, by omega⟩
      · obtain ⟨q', m', d', e', hr⟩ := hS4.2 i hi
        rw [e] at e'
        cases e'
        have h1 := hr.fre (w := w0) (own := own) (g := g) (hi := w4.heap.size) (Nat.le_refl _) hgl hw1 x ex h0
        exact ⟨h1.1.to h1.2.2 ho5, by omega⟩
    have hT7 : TB W7 own5 g gt ⟨1 - t.file, nl, ⟨t.r.gen + 1, base, recs⟩⟩ qb mb db qr dr us2 := by
      refine hTO.tb ?_ ⟨how, hT.fg.2⟩
      show At 81 W7 gt #[.pointer (some ⟨g, 0, none⟩), .int .i64 ((1 - t.file : Nat) : Int), .int .i64 (nl : Int), .int .i64 (t.r.gen + 1), .slice qb mb db, .slice qr recs.length dr]
      rw [HNL.out, ← HNR2.out]
      exact hA7
    go_wp2_with fail
    go_ret
    exact ⟨rfl, own5, d5, hD7, hn5, hc7, Or.inl ⟨rfl, qb, mb, db, qr, dr, us2, hT7, hTO⟩⟩

  · have hczn : (cz != 0) = true := by simpa using hcz
    have hn5 : ∀ k, k < w0.heap.size → own5 k = own k := fun k hk => (ho5 k (Nat.lt_of_lt_of_le hk hb04.size)).trans (farO_low hk)
    have hc6 : Ch (fun k => k = g ∨ own k = mark a (1 - t.file)) w0 w6 := (Ch.of_below hb04 (fun k => k = g ∨ own k = mark a (1 - t.file))).then hc5 (fun k hk e => e.elim Or.inl (fun e => Or.inr (by rw [farO_low hk] at e; exact e)))
    have hT6 : TB w6 own5 g gt t pb nb cb pr cr vs := TB.ch ha hi8 hT hc6 hn5
    have HR : Hid (SvPost B own a g gt t pb nb cb pr cr vs nl ⟨t.r.gen + 1, base, recs⟩ mz cz w0 w6) :=
      ⟨own5, d5, hD5, hn5, hc6.mono (fun k _ e => e.elim Or.inl (fun e => Or.inr (Or.inr e))), Or.inr ⟨hcz, hT6⟩⟩
    clear hn5 hc6 hT6 hD5 ho5 hc5 hG4 hT4 hD4 hO4 hV4 hS4 hT3 hT
    go_wp2_with fail
    go_ret
    exact ⟨rfl, HR.out⟩

set_option maxRecDepth 20000 in
set_option maxHeartbeats 2000000 in
theorem Save_range (w : World) (gt g : Nat) (gen : Int) (h0 : w.cell? ⟨gt, 0, none⟩ = some (.pointer (some ⟨g, 0, none⟩))) (h3 : w.cell? ⟨gt, 3, none⟩ = some (.int .i64 gen)) (hgen : 1099511627776 ≤ gen) (pa : Option Addr) (na ca : Nat) (pl : Option Addr) (nl cl : Nat) :
    Calls Tryz.prog 14 #[.pointer (some ⟨gt, 0, none⟩), .slice pa na ca, .slice pl nl cl] w fun e w' => e = .returned (.int .i64 5) ∧ w' = w := by
  have hM := tmade_yes w gt g h0
  have hge : decide ((1099511627776 : Int) ≤ gen) = true := decide_eq_true hgen
  clear h0
  go_enter Tryz.func14, Tryz.ntmps14
  go_wp2_with fail
  refine hM.mono ?_
  rintro e w0 ⟨rfl, hw0⟩
  subst hw0
  clear hM
  go_wp2_with fail
  go_ret
  exact ⟨rfl, rfl⟩

set_option maxRecDepth 20000 in
set_option maxHeartbeats 2000000 in
theorem Save_long (w : World) (gt g : Nat) (gen : Int) (h0 : w.cell? ⟨gt, 0, none⟩ = some (.pointer (some ⟨g, 0, none⟩))) (h3 : w.cell? ⟨gt, 3, none⟩ = some (.int .i64 gen)) (hgen : gen < 1099511627776) (pa : Option Addr) (na ca : Nat) (pl : Option Addr) (nl cl : Nat) (us : List Value) (recs : List (List Int)) (hpl : RdV w pl nl cl us) (hus : Sls w us recs) (hnl : nl = recs.length) (hfew : nl ≤ 1000000) (hfit : fitsR na recs = false) :
    Calls Tryz.prog 14 #[.pointer (some ⟨gt, 0, none⟩), .slice pa na ca, .slice pl nl cl] w fun e w' => e = .returned (.int .i64 4) ∧ Below w.heap.size w w' := by
  have hM := tmade_yes w gt g h0
  have hF := fits_any pa na ca pl nl cl us recs w hpl hus hnl hfew
  rw [hfit] at hF
  have hge : decide ((1099511627776 : Int) ≤ gen) = false := decide_eq_false (by omega)
  clear h0 hnl hfit hgen
  go_enter Tryz.func14, Tryz.ntmps14
  go_wp2_with fail
  refine hM.mono ?_
  rintro e w0 ⟨rfl, hw0⟩
  subst hw0
  clear hM
  go_wp2_with fail
  refine hF.mono ?_
  rintro e w1 ⟨rfl, hb1⟩
  clear hF
  go_wp2_with fail
  go_ret
  exact ⟨rfl, hb1⟩

end Go.Proofs.YtpjhadaiodnnaaaGreat.M
end
