/-
  Own text: contracts of what Append does, and of Append.
-/
import Derived.Test.YtpjhadaiodnnaaaEDo
import Derived.Test.YtpjhadaiodnnaaaAll
namespace Go.Proofs.Ytpjhadaiodnnaaa.M
open Go.ChangeShapes Go.WideShapes Go.ChangeAt Go.RowKit

theorem wp_enter {P : Program} {op : Oper} {a : Act} {w : World} {K : Act → World → Prop} {Q : Exit → Act → World → Prop} (f : FuncId) (args : Array Value) (he : (execOp a.eval op).run P w = .ok (.enter f args) w) (R : World → Prop) (v : Value) (hc : Calls P f args w fun e w' => e = .returned v ∧ R w') (h : ∀ w', R w' → K (a.put op.dst v) w') : op.wp P a w K Q := by
  unfold Oper.wp
  rw [he]
  refine Calls.mono hc ?_
  rintro e w' ⟨rfl, hR⟩
  exact h w' hR

theorem Rd.take {k : IntKind} {w : World} {p : Option Addr} {n c : Nat} {xs : List Int} (h : Rd k w p n c xs) {j : Nat} (hj : j ≤ n) : Rd k w p j c (xs.take j) := by
  have hl := h.len
  refine ⟨by simp; omega, Nat.le_trans hj h.cap, h.nil, fun h0 => ?_⟩
  obtain ⟨b, o, hp, hc⟩ := h.cells (by omega)
  refine ⟨b, o, hp, fun i hi => ?_⟩
  rw [hc i (by omega), List.getD_eq_getElem?_getD, List.getD_eq_getElem?_getD, List.getElem?_take_of_lt hi]

theorem DA.below {w w' : World} {B : Nat} {own : Nat → Nat} {a g : Nat} {d : Dk} {m : PD} (h : DA w B own a g d m) (hb : Below w.heap.size w w') : DA w' B own a g d m :=
  h.ch (S := fun _ => False) (Ch.of_below hb _) (fun e => e) (fun _ _ _ _ e => e) (fun _ _ e => e) (fun _ _ => rfl) (fun k hk => h.fr k (Nat.le_trans hb.size hk))

def AS (w : World) (B : Nat) (own : Nat → Nat) (a g : Nat) (d : Dk) (m : PD) (i bf bb : Nat) (q : Option Addr) (l c : Nat) (ys : List Int) (V : World) : Prop :=
  V.cell? ⟨bf, 0, none⟩ = some (.pointer (some ⟨g, 2 + i * 3, none⟩)) ∧ V.cell? ⟨bb, 0, none⟩ = some (.slice q l c) ∧ DA V B own a g d m ∧ Rd .u8 V q l c ys ∧ Below w.heap.size w V

theorem AS.stays (w : World) (B : Nat) (own : Nat → Nat) (a g : Nat) (d : Dk) (m : PD) (i bf bb : Nat) (q : Option Addr) (l c : Nat) (ys : List Int) : Stays (AS w B own a g d m i bf bb q l c ys) := fun _ _ h hb =>
  ⟨by rw [hb.cell (p := ⟨bf, 0, none⟩) (World.block_lt_of_cell? _ _ h.1)]; exact h.1, by rw [hb.cell (p := ⟨bb, 0, none⟩) (World.block_lt_of_cell? _ _ h.2.1)]; exact h.2.1, h.2.2.1.below hb, h.2.2.2.1.below' hb, h.2.2.2.2.trans (hb.mono h.2.2.2.2.size)⟩

/-- What an append of ys to file i leaves. -/
def AR (w : World) (B : Nat) (own : Nat → Nat) (a g : Nat) (m : PD) (i : Nat) (ys : List Int) (V : World) : Prop :=
  ∃ own2 d2, DA V B own2 a g d2 { m with f := upP m.f i { m.f i with told := (m.f i).told ++ ys } } ∧ (∀ k, k < w.heap.size → own2 k = own k) ∧ Ch (fun k => k = g ∨ own k = mark a i) w V

theorem AR.stays (w : World) (B : Nat) (own : Nat → Nat) (a g : Nat) (m : PD) (i : Nat) (ys : List Int) : Stays (AR w B own a g m i ys) := fun _ _ ⟨own2, d2, h1, h2, h3⟩ hb => ⟨own2, d2, h1.below hb, h2, h3.trans (Ch.of_below hb _)⟩

def A0 (g i bf bb : Nat) (q : Option Addr) (l c : Nat) (V : World) : Prop := V.cell? ⟨bf, 0, none⟩ = some (.pointer (some ⟨g, 2 + i * 3, none⟩)) ∧ V.cell? ⟨bb, 0, none⟩ = some (.slice q l c)

theorem AR.stays2 (w : World) (B : Nat) (own : Nat → Nat) (a g : Nat) (m : PD) (i : Nat) (ys : List Int) (bf bb : Nat) (q : Option Addr) (l c : Nat) : Stays (fun V => AR w B own a g m i ys V ∧ A0 g i bf bb q l c V) := fun V V' h hb =>
  ⟨AR.stays w B own a g m i ys V V' h.1 hb, by rw [hb.cell (p := ⟨bf, 0, none⟩) (World.block_lt_of_cell? _ _ h.2.1)]; exact h.2.1, by rw [hb.cell (p := ⟨bb, 0, none⟩) (World.block_lt_of_cell? _ _ h.2.2)]; exact h.2.2⟩

set_option linter.unusedSimpArgs false in
set_option maxRecDepth 20000 in
theorem append1_any (w : World) (B : Nat) (own : Nat → Nat) (a g : Nat) (d : Dk) (m : PD) (h : DA w B own a g d m) (i : Nat) (hi : i < 8) (hB : B ≤ w.heap.size) (n bf bb : Nat) (q : Option Addr) (l c : Nat) (ys : List Int) (hr : Rd .u8 w q l c ys) (hn : n ≤ l) (hl : l ≤ 549755813888) (ht : (m.f i).told.length ≤ 549755813888)
    (hbf : w.cell? ⟨bf, 0, none⟩ = some (.pointer (some ⟨g, 2 + i * 3, none⟩))) (hbb : w.cell? ⟨bb, 0, none⟩ = some (.slice q l c)) (hobf : ¬ (bf = g ∨ own bf = mark a i)) (hobb : ¬ (bb = g ∨ own bb = mark a i)) :
    Calls Try.prog 40 #[.int .i64 n, .pointer (some ⟨bf, 0, none⟩), .pointer (some ⟨bb, 0, none⟩)] w fun e w' => e = .returned (.tuple #[]) ∧ AR w B own a g m i (ys.take n) w' := by
  have hcap := hr.cap
  have hnil := hr.nil
  have hS0 : AS w B own a g d m i bf bb q l c ys w.drew := AS.stays w B own a g d m i bf bb q l c ys w _ ⟨hbf, hbb, h, hr, Below.refl _ _⟩ (Below.refl _ _).drew
  clear h hr hbf hbb
  go_enter Try.func40, Try.ntmps40
  go_wp2_with fail
  refine wp_region_det [0, 1, 2, 3] (A0 g i bf bb q l c) (AS w B own a g d m i bf bb q l c ys) (by kernel_rfl) hS0 ?_
  refine wpDet_take ?vA0 (AS.stays w B own a g d m i bf bb q l c ys) (fun _ h => ⟨h.1, h.2.1⟩) (i := 0) rfl (by kernel_rfl) (by kernel_rfl) (by kernel_rfl) (by kernel_rfl) (fun _ _ _ h => h) (Gives.value (by rfl) ?yA0) ?rA0
  case yA0 => (intro w' hSw; have hq0 := hSw.1; (try dsimp only at hSw); go_simp; try with_reducible rfl)
  (try simp only [Act.put, List.getElem_toArray, List.getElem_cons_zero, List.getElem_cons_succ, List.setIfInBounds_toArray, List.set_cons_zero, List.set_cons_succ])
  refine wpDet_take ?vA1 (AS.stays w B own a g d m i bf bb q l c ys) (fun _ h => ⟨h.1, h.2.1⟩) (i := 1) rfl (by kernel_rfl) (by kernel_rfl) (by kernel_rfl) (by kernel_rfl) (fun _ _ _ h => h) (Gives.value (by rfl) ?yA1) ?rA1
  case yA1 => (intro w' hSw; have hq0 := hSw.2; (try dsimp only at hSw); go_simp; try with_reducible rfl)
  (try simp only [Act.put, List.getElem_toArray, List.getElem_cons_zero, List.getElem_cons_succ, List.setIfInBounds_toArray, List.set_cons_zero, List.set_cons_succ])
  refine wpDet_take ?vA2 (AS.stays w B own a g d m i bf bb q l c ys) (fun _ h => ⟨h.1, h.2.1⟩) (i := 2) rfl (by kernel_rfl) (by kernel_rfl) (by kernel_rfl) (by kernel_rfl) (fun _ _ _ h => h) (Gives.value (by rfl) ?yA2) ?rA2
  case yA2 => (intro w' hSw; (try dsimp only at hSw); go_simp; try with_reducible rfl)
  (try simp only [Act.put, List.getElem_toArray, List.getElem_cons_zero, List.getElem_cons_succ, List.setIfInBounds_toArray, List.set_cons_zero, List.set_cons_succ])
  refine wpDet_take (.slice q n c) (AS.stays w B own a g d m i bf bb q l c ys) (fun _ h => ⟨h.1, h.2.1⟩) (i := 3) rfl (by kernel_rfl) (by kernel_rfl) (by kernel_rfl) (by kernel_rfl) (fun _ _ _ h => h) (Gives.value (by rfl) ?yA3) ?rA3
  case yA3 => (intro w' hSw; (try dsimp only at hSw); go_simp; try (intro hh; exfalso; omega))
  (try simp only [Act.put, List.getElem_toArray, List.getElem_cons_zero, List.getElem_cons_succ, List.setIfInBounds_toArray, List.set_cons_zero, List.set_cons_succ])
  refine wpDet_ready (rs := [4]) (by kernel_rfl) (by simp) (AllDet.cons rfl (fun V hV K hK => ?_) AllDet.nil)
  rw [if_pos (by rfl)]
  have hP := dput_any V B own a g d m hV.2.2.1 i hi (Nat.le_trans hB hV.2.2.2.2.size) q n c (ys.take n) (hV.2.2.2.1.take hn) (by omega)
  have hbl := hV.2.2.2.2
  have hq1 := hV.1
  have hq2 := hV.2.1
  refine wp_enter 41 #[.pointer (some ⟨g, 2 + i * 3, none⟩), .slice q n c] (by first | (go_simp; done) | (go_simp; rfl)) (fun V' => _) _ hP ?_
  clear hP hV
  rintro V' ⟨own2, d2, hA2, ho2, hc2⟩
  refine hK.out (fun V => AR w B own a g m i (ys.take n) V ∧ A0 g i bf bb q l c V) _ _ (AR.stays2 w B own a g m i (ys.take n) bf bb q l c) (fun _ _ h => h.2) ⟨⟨own2, d2, hA2, fun k hk => ho2 k (Nat.lt_of_lt_of_le hk hbl.size), (Ch.of_below hbl _).trans hc2⟩, ⟨by rw [hc2.cell (p := ⟨bf, 0, none⟩) (World.block_lt_of_cell? _ _ hq1) hobf]; exact hq1, by rw [hc2.cell (p := ⟨bb, 0, none⟩) (World.block_lt_of_cell? _ _ hq2) hobb]; exact hq2⟩⟩ ?_
  clear hK K hA2 ho2 hc2 hbl hq1 hq2
  (try simp only [Act.put, List.getElem_toArray, List.getElem_cons_zero, List.getElem_cons_succ, List.setIfInBounds_toArray, List.set_cons_zero, List.set_cons_succ])
  refine wpDet_done (by kernel_rfl) (fun w8 hV => ?_) _
  go_wp2_with fail
  go_end0
  exact ⟨rfl, hV.1⟩

end Go.Proofs.Ytpjhadaiodnnaaa.M
