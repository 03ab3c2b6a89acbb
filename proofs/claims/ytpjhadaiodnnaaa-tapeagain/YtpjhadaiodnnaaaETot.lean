/-
  Own text: contracts of what Append does, and of Append.
  Own text: contracts of Append, Crash, Arm and Read.
  Own text: contracts of New, Start, Crash, Read, and of an Append that is refused.
  Own text: contracts of slices.Clone over numbers, of the fuse's clone, of Arm and of Clear.
  Own text: contracts of Arm and Clear.
  Own text: calls on a disk that have no room; how many bytes a disk has.
-/
import Derived.Test.YtpjhadaiodnnaaaEDo
import Derived.Test.YtpjhadaiodnnaaaAll
import Derived.Lib.Bytes
namespace Go.Proofs.Ytpjhadaiodnnaaa.M
open Go.ChangeShapes Go.WideShapes Go.ChangeAt Go.RowKit

theorem wp_enter {P : Program} {op : Oper} {a : Act} {w : World} {K : Act → World → Prop} {Q : Exit → Act → World → Prop} (f : FuncId) (args : Array Value) (he : (execOp a.eval op).run P w = .ok (.enter f args) w) (R : World → Prop) (v : Value) (hc : Calls P f args w fun e w' => e = .returned v ∧ R w') (h : ∀ w', R w' → K (a.put op.dst v) w') : op.wp P a w K Q := by
  unfold Oper.wp
  rw [he]
  refine Calls.mono hc ?_
  rintro e w' ⟨rfl, hR⟩
  exact h w' hR

theorem Rd.take {k : IntKind} {w : World} {p : Option Addr} {n c : Nat} {xs : List Int} (h : Rd k w p n c xs) {j : Nat} (hj : j ≤ n) : Rd k w p j c (xs.take j) := by
  have hl := h.len
  refine ⟨by simp; omega, Nat.le_trans hj h.cap, h.nil, fun h0 => ?_⟩
  obtain ⟨b, o, hp, hc⟩ := h.cells (by omega)
  refine ⟨b, o, hp, fun i hi => ?_⟩
  rw [hc i (by omega), List.getD_eq_getElem?_getD, List.getD_eq_getElem?_getD, List.getElem?_take_of_lt hi]

theorem DA.below {w w' : World} {B : Nat} {own : Nat → Nat} {a g : Nat} {d : Dk} {m : PD} (h : DA w B own a g d m) (hb : Below w.heap.size w w') : DA w' B own a g d m :=
  h.ch (S := fun _ => False) (Ch.of_below hb _) (fun e => e) (fun _ _ _ _ e => e) (fun _ _ e => e) (fun _ _ => rfl) (fun k hk => h.fr k (Nat.le_trans hb.size hk))

def AS (w : World) (B : Nat) (own : Nat → Nat) (a g : Nat) (d : Dk) (m : PD) (i bf bb : Nat) (q : Option Addr) (l c : Nat) (ys : List Int) (V : World) : Prop :=
  V.cell? ⟨bf, 0, none⟩ = some (.pointer (some ⟨g, 2 + i * 3, none⟩)) ∧ V.cell? ⟨bb, 0, none⟩ = some (.slice q l c) ∧ DA V B own a g d m ∧ Rd .u8 V q l c ys ∧ Below w.heap.size w V

theorem AS.stays (w : World) (B : Nat) (own : Nat → Nat) (a g : Nat) (d : Dk) (m : PD) (i bf bb : Nat) (q : Option Addr) (l c : Nat) (ys : List Int) : Stays (AS w B own a g d m i bf bb q l c ys) := fun _ _ h hb =>
  ⟨by rw [hb.cell (p := ⟨bf, 0, none⟩) (World.block_lt_of_cell? _ _ h.1)]; exact h.1, by rw [hb.cell (p := ⟨bb, 0, none⟩) (World.block_lt_of_cell? _ _ h.2.1)]; exact h.2.1, h.2.2.1.below hb, h.2.2.2.1.below' hb, h.2.2.2.2.trans (hb.mono h.2.2.2.2.size)⟩

/-- What an append of ys to file i leaves. -/
def AR (w : World) (B : Nat) (own : Nat → Nat) (a g : Nat) (m : PD) (i : Nat) (ys : List Int) (V : World) : Prop :=
  ∃ own2 d2, DA V B own2 a g d2 { m with f := upP m.f i { m.f i with told := (m.f i).told ++ ys } } ∧ (∀ k, k < w.heap.size → own2 k = own k) ∧ Ch (fun k => k = g ∨ own k = mark a i) w V

theorem AR.stays (w : World) (B : Nat) (own : Nat → Nat) (a g : Nat) (m : PD) (i : Nat) (ys : List Int) : Stays (AR w B own a g m i ys) := fun _ _ ⟨own2, d2, h1, h2, h3⟩ hb => ⟨own2, d2, h1.below hb, h2, h3.trans (Ch.of_below hb _)⟩

def A0 (g i bf bb : Nat) (q : Option Addr) (l c : Nat) (V : World) : Prop := V.cell? ⟨bf, 0, none⟩ = some (.pointer (some ⟨g, 2 + i * 3, none⟩)) ∧ V.cell? ⟨bb, 0, none⟩ = some (.slice q l c)

theorem AR.stays2 (w : World) (B : Nat) (own : Nat → Nat) (a g : Nat) (m : PD) (i : Nat) (ys : List Int) (bf bb : Nat) (q : Option Addr) (l c : Nat) : Stays (fun V => AR w B own a g m i ys V ∧ A0 g i bf bb q l c V) := fun V V' h hb =>
  ⟨AR.stays w B own a g m i ys V V' h.1 hb, by rw [hb.cell (p := ⟨bf, 0, none⟩) (World.block_lt_of_cell? _ _ h.2.1)]; exact h.2.1, by rw [hb.cell (p := ⟨bb, 0, none⟩) (World.block_lt_of_cell? _ _ h.2.2)]; exact h.2.2⟩

set_option linter.unusedSimpArgs false in
set_option maxRecDepth 20000 in
theorem append1_any (w : World) (B : Nat) (own : Nat → Nat) (a g : Nat) (d : Dk) (m : PD) (h : DA w B own a g d m) (i : Nat) (hi : i < 8) (hB : B ≤ w.heap.size) (n bf bb : Nat) (q : Option Addr) (l c : Nat) (ys : List Int) (hr : Rd .u8 w q l c ys) (hn : n ≤ l) (hl : l ≤ 549755813888) (ht : (m.f i).told.length ≤ 549755813888)
    (hbf : w.cell? ⟨bf, 0, none⟩ = some (.pointer (some ⟨g, 2 + i * 3, none⟩))) (hbb : w.cell? ⟨bb, 0, none⟩ = some (.slice q l c)) (hobf : ¬ (bf = g ∨ own bf = mark a i)) (hobb : ¬ (bb = g ∨ own bb = mark a i)) :
    Calls Try.prog 40 #[.int .i64 n, .pointer (some ⟨bf, 0, none⟩), .pointer (some ⟨bb, 0, none⟩)] w fun e w' => e = .returned (.tuple #[]) ∧ AR w B own a g m i (ys.take n) w' := by
  have hcap := hr.cap
  have hnil := hr.nil
  have hS0 : AS w B own a g d m i bf bb q l c ys w.drew := AS.stays w B own a g d m i bf bb q l c ys w _ ⟨hbf, hbb, h, hr, Below.refl _ _⟩ (Below.refl _ _).drew
  clear h hr hbf hbb
  go_enter Try.func40, Try.ntmps40
  go_wp2_with fail
  refine wp_region_det [0, 1, 2, 3] (A0 g i bf bb q l c) (AS w B own a g d m i bf bb q l c ys) (by kernel_rfl) hS0 ?_
  refine wpDet_take ?vA0 (AS.stays w B own a g d m i bf bb q l c ys) (fun _ h => ⟨h.1, h.2.1⟩) (i := 0) rfl (by kernel_rfl) (by kernel_rfl) (by kernel_rfl) (by kernel_rfl) (fun _ _ _ h => h) (Gives.value (by rfl) ?yA0) ?rA0
  case yA0 => (intro w' hSw; have hq0 := hSw.1; (try dsimp only at hSw); go_simp; try with_reducible rfl)
  (try simp only [Act.put, List.getElem_toArray, List.getElem_cons_zero, List.getElem_cons_succ, List.setIfInBounds_toArray, List.set_cons_zero, List.set_cons_succ])
  refine wpDet_take ?vA1 (AS.stays w B own a g d m i bf bb q l c ys) (fun _ h => ⟨h.1, h.2.1⟩) (i := 1) rfl (by kernel_rfl) (by kernel_rfl) (by kernel_rfl) (by kernel_rfl) (fun _ _ _ h => h) (Gives.value (by rfl) ?yA1) ?rA1
  case yA1 => (intro w' hSw; have hq0 := hSw.2; (try dsimp only at hSw); go_simp; try with_reducible rfl)
  (try simp only [Act.put, List.getElem_toArray, List.getElem_cons_zero, List.getElem_cons_succ, List.setIfInBounds_toArray, List.set_cons_zero, List.set_cons_succ])
  refine wpDet_take ?vA2 (AS.stays w B own a g d m i bf bb q l c ys) (fun _ h => ⟨h.1, h.2.1⟩) (i := 2) rfl (by kernel_rfl) (by kernel_rfl) (by kernel_rfl) (by kernel_rfl) (fun _ _ _ h => h) (Gives.value (by rfl) ?yA2) ?rA2
  case yA2 => (intro w' hSw; (try dsimp only at hSw); go_simp; try with_reducible rfl)
  (try simp only [Act.put, List.getElem_toArray, List.getElem_cons_zero, List.getElem_cons_succ, List.setIfInBounds_toArray, List.set_cons_zero, List.set_cons_succ])
  refine wpDet_take (.slice q n c) (AS.stays w B own a g d m i bf bb q l c ys) (fun _ h => ⟨h.1, h.2.1⟩) (i := 3) rfl (by kernel_rfl) (by kernel_rfl) (by kernel_rfl) (by kernel_rfl) (fun _ _ _ h => h) (Gives.value (by rfl) ?yA3) ?rA3
  case yA3 => (intro w' hSw; (try dsimp only at hSw); go_simp; try (intro hh; exfalso; omega))
  (try simp only [Act.put, List.getElem_toArray, List.getElem_cons_zero, List.getElem_cons_succ, List.setIfInBounds_toArray, List.set_cons_zero, List.set_cons_succ])
  refine wpDet_ready (rs := [4]) (by kernel_rfl) (by simp) (AllDet.cons rfl (fun V hV K hK => ?_) AllDet.nil)
  rw [if_pos (by rfl)]
  have hP := dput_any V B own a g d m hV.2.2.1 i hi (Nat.le_trans hB hV.2.2.2.2.size) q n c (ys.take n) (hV.2.2.2.1.take hn) (by omega)
  have hbl := hV.2.2.2.2
  have hq1 := hV.1
  have hq2 := hV.2.1
  refine wp_enter 41 #[.pointer (some ⟨g, 2 + i * 3, none⟩), .slice q n c] (by first | (go_simp; done) | (go_simp; rfl)) (fun V' => _) _ hP ?_
  clear hP hV
  rintro V' ⟨own2, d2, hA2, ho2, hc2⟩
  refine hK.out (fun V => AR w B own a g m i (ys.take n) V ∧ A0 g i bf bb q l c V) _ _ (AR.stays2 w B own a g m i (ys.take n) bf bb q l c) (fun _ _ h => h.2) ⟨⟨own2, d2, hA2, fun k hk => ho2 k (Nat.lt_of_lt_of_le hk hbl.size), (Ch.of_below hbl _).trans hc2⟩, ⟨by rw [hc2.cell (p := ⟨bf, 0, none⟩) (World.block_lt_of_cell? _ _ hq1) hobf]; exact hq1, by rw [hc2.cell (p := ⟨bb, 0, none⟩) (World.block_lt_of_cell? _ _ hq2) hobb]; exact hq2⟩⟩ ?_
  clear hK K hA2 ho2 hc2 hbl hq1 hq2
  (try simp only [Act.put, List.getElem_toArray, List.getElem_cons_zero, List.getElem_cons_succ, List.setIfInBounds_toArray, List.set_cons_zero, List.set_cons_succ])
  refine wpDet_done (by kernel_rfl) (fun w8 hV => ?_) _
  go_wp2_with fail
  go_end0
  exact ⟨rfl, hV.1⟩

end Go.Proofs.Ytpjhadaiodnnaaa.M

namespace Go.Proofs.Ytpjhadaiodnnaaa.M
open Go.ChangeShapes Go.WideShapes Go.ChangeAt Go.RowKit

/-- How many bytes are told. -/
def PD.used (m : PD) : Nat := ((m.f 0).told.length + (m.f 1).told.length + (m.f 2).told.length + (m.f 3).told.length + (m.f 4).told.length + (m.f 5).told.length + (m.f 6).told.length + (m.f 7).told.length)

theorem used_eq {w : World} {B : Nat} {own : Nat → Nat} {a g : Nat} {d : Dk} {m : PD} (h : DA w B own a g d m) : usedN d 8 = m.used := by
  unfold PD.used
  rw [← fl_tn h (i := 0) (by decide), ← fl_tn h (i := 1) (by decide), ← fl_tn h (i := 2) (by decide), ← fl_tn h (i := 3) (by decide), ← fl_tn h (i := 4) (by decide), ← fl_tn h (i := 5) (by decide), ← fl_tn h (i := 6) (by decide), ← fl_tn h (i := 7) (by decide)]
  simp [usedN]

theorem mark_pos (a i : Nat) : mark a i ≠ 0 := by unfold mark; omega

set_option maxRecDepth 20000 in
theorem Append_gen (w : World) (B : Nat) (own : Nat → Nat) (a g : Nat) (d : Dk) (m : PD) (h : DA w B own a g d m) (hr : 0 < m.room) (hw : m.down = false) (hm : m.few) (hB : B ≤ w.heap.size) (i : Nat) (hi : i < 8) (q : Option Addr) (l c : Nat) (ys : List Int) (hy : Rd .u8 w q l c ys) (hqg : ∀ x, q = some x → 0 < l → x.block ≠ g) (hl : l ≤ 549755813888) (hu : m.used + l ≤ m.room) (hrm : m.room ≤ 4194304) :
    Calls Try.prog 11 #[.pointer (some ⟨g, 0, none⟩), .int .i64 i, .slice q l c] w fun e w' => e = .returned (.int .i64 (goneE (m.gone l))) ∧ ∃ own2 d2, DA w' B own2 a g d2 (m.act l fun n => upP m.f i { m.f i with told := (m.f i).told ++ ys.take n }) ∧ (∀ k, k < w.heap.size → own2 k = own k) ∧ Ch (fun k => k = g ∨ own k = mark a i) w w' := by
  have hb1 : Below w.heap.size w (w.alloc (.cells #[.slice q l c] 22)) := (Below.refl _ _).alloc (Nat.le_refl _) _
  have h1 := h.below hb1
  have hb2 : Below w.heap.size w ((w.alloc (.cells #[.slice q l c] 22)).alloc (.cells #[.pointer (some ⟨g, 2 + i * 3, none⟩)] 93)) := hb1.alloc (by simp) _
  have hF := file_ok (w.alloc (.cells #[.slice q l c] 22)) g d h1.dc (by rw [h.room]; exact hr) (h.down.trans hw) i hi
  have h2 := h.below hb2
  have hy2 := hy.below' hb2
  have hbb : ((w.alloc (.cells #[.slice q l c] 22)).alloc (.cells #[.pointer (some ⟨g, 2 + i * 3, none⟩)] 93)).cell? ⟨w.heap.size, 0, none⟩ = some (.slice q l c) := by simp
  have hbf : ((w.alloc (.cells #[.slice q l c] 22)).alloc (.cells #[.pointer (some ⟨g, 2 + i * 3, none⟩)] 93)).cell? ⟨w.heap.size + 1, 0, none⟩ = some (.pointer (some ⟨g, 2 + i * 3, none⟩)) := by simp
  have hlt := h.dc.lt
  have hob1 : ¬ (w.heap.size = g ∨ own w.heap.size = mark a i) := by
    rintro (e | e)
    · omega
    · rw [h.fr _ (Nat.le_refl _)] at e; exact mark_pos a i e.symm
  have hob2 : ¬ (w.heap.size + 1 = g ∨ own (w.heap.size + 1) = mark a i) := by
    rintro (e | e)
    · omega
    · rw [h.fr _ (by omega)] at e; exact mark_pos a i e.symm
  have hsz : w.heap.size + 2 ≤ ((w.alloc (.cells #[.slice q l c] 22)).alloc (.cells #[.pointer (some ⟨g, 2 + i * 3, none⟩)] 93)).heap.size := by simp
  have hre := h.room
  generalize hW2 : (w.alloc (.cells #[.slice q l c] 22)).alloc (.cells #[.pointer (some ⟨g, 2 + i * 3, none⟩)] 93) = w2 at *
  have hU : ∀ n, Calls Try.prog 38 #[.pointer (some ⟨g, 0, none⟩)] (w2.drewN n) fun e w' => e = .returned (.int .i64 m.used) ∧ w' = w2.drewN n := by
    intro n
    have h3 := h2.below (below_drewN (Below.refl w2.heap.size w2) n)
    have := used_any (w2.drewN n) g d h3.dc (by rw [h.room]; exact hr) (fun j hj => by rw [fl_tn h hj]; have := hm.told j hj; omega)
    rw [used_eq h3] at this
    exact this
  have hact : ∀ n, Calls Try.prog 39 #[.pointer (some ⟨g, 0, none⟩), .int .i64 l, .func (.func 40) #[] #[.pointer (some ⟨w.heap.size + 1, 0, none⟩), .pointer (some ⟨w.heap.size, 0, none⟩)]] (w2.drewN n) fun e w' => e = .returned (.int .i64 (goneE (m.gone l))) ∧ ∃ own2 d2, DA w' B own2 a g d2 (m.act l fun n => upP m.f i { m.f i with told := (m.f i).told ++ ys.take n }) ∧ (∀ k, k < w.heap.size → own2 k = own k) ∧ Ch (fun k => k = g ∨ own k = mark a i) w w' := by
    intro n
    have hbd := below_drewN (Below.refl w2.heap.size w2) n
    have h3 := h2.below hbd
    have hbt := hb2.trans (hbd.mono hb2.size)
    refine (act_any 40 cfAppend _ (fun k => k = g ∨ own k = mark a i) _ B own a g d m h3 (Or.inl rfl) l (fun n => upP m.f i { m.f i with told := (m.f i).told ++ ys.take n })
      (fun n1 hn1 => upP_few hm i _ (by have := hm.told i hi; dsimp only; rw [List.length_append, List.length_take]; omega)) (by have := hm.keep; omega) hm.left (fun w4 d4 m4 n4 hA hf hn4 hc => by
        have hy4 := (hy2.below' hbd).ch0 hc (fun x e e0 e2 => ?_)
        · have := append1_any w4 B own a g d4 m4 hA i hi (Nat.le_trans (Nat.le_trans hB hbt.size) hc.size) n4 (w.heap.size + 1) w.heap.size q l c ys hy4 hn4 hl (by rw [hf]; exact hm.told i hi)
            (by rw [hc.cell (p := ⟨w.heap.size + 1, 0, none⟩) (by show w.heap.size + 1 < w2.heap.size; omega) (by show ¬ w.heap.size + 1 = g; omega)]; exact hbf)
            (by rw [hc.cell (p := ⟨w.heap.size, 0, none⟩) (by show w.heap.size < w2.heap.size; omega) (by show ¬ w.heap.size = g; omega)]; exact hbb) hob2 hob1
          unfold AR at this
          rw [hf] at this
          exact this
        · exact hqg x e e0 e2)).mono ?_
    rintro e w5 ⟨rfl, own2, d2, hA2, ho2, hc2⟩
    exact ⟨rfl, own2, d2, hA2, fun k hk => ho2 k (by show k < w2.heap.size; omega), (Ch.of_below hbt _).trans hc2⟩
  have hcr : w2.cell? ⟨g, 0, none⟩ = some (.int .i64 m.room) := by rw [← hre]; exact h2.dc.room
  clear h h1 h2 hm hy hy2 hob1 hob2
  go_enter Try.func11, Try.ntmps11
  go_wp2_with fail
  refine hF.mono ?_
  rintro e w1 ⟨rfl, rfl⟩
  go_wp2_with fail
  go_quiet ((go_at_call 38; exact Calls.quiet_of_same (hU _)))
  go_wp2_with fail
  refine (hact _).mono ?_
  rintro e w5 ⟨rfl, own2, d2, hA2, ho2, hc2⟩
  go_wp2_with fail
  go_ret
  exact ⟨rfl, own2, d2, hA2, ho2, hc2⟩

theorem Append_ok (w : World) (B : Nat) (own : Nat → Nat) (a g : Nat) (d : Dk) (m : PD) (h : DA w B own a g d m) (hr : 0 < m.room) (hw : m.down = false) (hm : m.few) (hB : B ≤ w.heap.size) (i : Nat) (hi : i < 8) (q : Option Addr) (l c : Nat) (ys : List Int) (hy : Rd .u8 w q l c ys) (hqg : ∀ x, q = some x → x.block ≠ g) (hl : l ≤ 549755813888) (hu : m.used + l ≤ m.room) (hrm : m.room ≤ 4194304) :
    Calls Try.prog 11 #[.pointer (some ⟨g, 0, none⟩), .int .i64 i, .slice q l c] w fun e w' => e = .returned (.int .i64 (goneE (m.gone l))) ∧ ∃ own2 d2, DA w' B own2 a g d2 (m.act l fun n => upP m.f i { m.f i with told := (m.f i).told ++ ys.take n }) ∧ (∀ k, k < w.heap.size → own2 k = own k) ∧ Ch (fun k => k = g ∨ own k = mark a i) w w' :=
  Append_gen w B own a g d m h hr hw hm hB i hi q l c ys hy (fun x e _ => hqg x e) hl hu hrm

end Go.Proofs.Ytpjhadaiodnnaaa.M

namespace Go.Proofs.Ytpjhadaiodnnaaa.M
open Go.ChangeShapes Go.WideShapes Go.ChangeAt Go.RowKit

/-- A disk that was just made. -/
def pd0 (room : Nat) : PD := ⟨room, false, fun _ => ⟨[], [], false⟩, 0, []⟩

theorem New_ok (w : World) (a r : Nat) (h1 : 1 ≤ r) (h2 : r ≤ 4194304) :
    Calls Try.prog 9 #[.int .i64 r] w fun e w' => e = .returned (.tuple #[.pointer (some ⟨w.heap.size, 0, none⟩), .int .i64 0]) ∧ DA w' w.heap.size (fun _ => 0) a w.heap.size (dk0 r) (pd0 r) ∧ Below w.heap.size w w' := by
  refine (new_any w r h1 h2).mono ?_
  rintro e w' ⟨rfl, hd, hb⟩
  refine ⟨rfl, ⟨hd, rfl, rfl, rfl, fun _ _ => rfl, fun i _ => ⟨OwS.nil _ _ _ _, OwS.nil _ _ _ _, (fun _ e => by cases e), (fun _ e => by cases e), (fun _ => List.prefix_refl _), (fun e => by cases e)⟩, ⟨rfl, Nat.le_refl _, fun _ => rfl, fun h => absurd h (Nat.lt_irrefl _)⟩, rfl, (fun _ e => by cases e), Nat.le_refl _, fun _ _ => rfl⟩, hb⟩

theorem Start_ok (w : World) (B : Nat) (own : Nat → Nat) (a g : Nat) (d : Dk) (m : PD) (h : DA w B own a g d m) (hr : 0 < m.room) :
    Calls Try.prog 36 #[.pointer (some ⟨g, 0, none⟩)] w fun e w' => e = .returned (.int .i64 0) ∧ DA w' B own a g { d with down := false } { m with down := false } ∧ Ch (fun k => k = g) w w' := by
  refine (start_any w g d h.dc (by rw [h.room]; exact hr)).mono ?_
  rintro e w' ⟨rfl, rfl⟩
  have hc := Ch.setCell w ⟨g, 1, none⟩ (.bool false)
  exact ⟨rfl, DA.mend hc (h.dc.setDown false) h.room rfl h.left h.cl h.fm h.keep h.og h.ok h.bg h.fr, hc⟩

set_option maxRecDepth 20000 in
theorem Crash_gen (w : World) (B : Nat) (own : Nat → Nat) (a g : Nat) (d : Dk) (m : PD) (h : DA w B own a g d m) (hr : 0 < m.room) (hw : m.down = false) (hm : m.few) (q : Option Addr) (l c : Nat) (keep : List Int) (hy : Rd .i64 w q l c keep) (hqg : ∀ x, q = some x → 0 < l → x.block ≠ g) (hl : l ≤ 1099511627776) :
    Calls Try.prog 28 #[.pointer (some ⟨g, 0, none⟩), .slice q l c] w fun e w' => e = .returned (.int .i64 0) ∧ ∃ d2, DA w' B own a g d2 (m.fall keep) ∧ Ch (fun k => k = g) w w' := by
  have hR := ready_any w g d h.dc (by rw [h.room]; exact hr)
  rw [h.down, hw] at hR
  have hF := fall_any w B own a g d m h q l c keep hy hl hqg (fun i hi => by have := hm.told i hi; omega)
  clear h hy
  go_enter Try.func28, Try.ntmps28
  go_wp2_with fail
  refine hR.mono ?_
  rintro e w1 ⟨rfl, rfl⟩
  go_wp2_with fail
  refine hF.mono ?_
  rintro e w2 ⟨rfl, d2, hA, hc⟩
  go_wp2_with fail
  go_ret
  exact ⟨rfl, d2, hA, hc⟩

theorem Crash_ok (w : World) (B : Nat) (own : Nat → Nat) (a g : Nat) (d : Dk) (m : PD) (h : DA w B own a g d m) (hr : 0 < m.room) (hw : m.down = false) (hm : m.few) (q : Option Addr) (l c : Nat) (keep : List Int) (hy : Rd .i64 w q l c keep) (hqg : ∀ x, q = some x → x.block ≠ g) (hl : l ≤ 1099511627776) :
    Calls Try.prog 28 #[.pointer (some ⟨g, 0, none⟩), .slice q l c] w fun e w' => e = .returned (.int .i64 0) ∧ ∃ d2, DA w' B own a g d2 (m.fall keep) ∧ Ch (fun k => k = g) w w' :=
  Crash_gen w B own a g d m h hr hw hm q l c keep hy (fun x e _ => hqg x e) hl

set_option maxRecDepth 20000 in
theorem Append_none (w : World) (B : Nat) (own : Nat → Nat) (a g : Nat) (d : Dk) (m : PD) (h : DA w B own a g d m) (hr : 0 < m.room) (hw : m.down = false) (i : Int) (hi : i < 0 ∨ 8 ≤ i) (q : Option Addr) (l c : Nat) :
    Calls Try.prog 11 #[.pointer (some ⟨g, 0, none⟩), .int .i64 i, .slice q l c] w fun e w' => e = .returned (.int .i64 51) ∧ Below w.heap.size w w' := by
  have hb1 : Below w.heap.size w (w.alloc (.cells #[.slice q l c] 22)) := (Below.refl _ _).alloc (Nat.le_refl _) _
  have h1 := h.below hb1
  have hF := file_none (w.alloc (.cells #[.slice q l c] 22)) g d h1.dc (by rw [h.room]; exact hr) (h.down.trans hw) i hi
  have hb2 : Below w.heap.size w ((w.alloc (.cells #[.slice q l c] 22)).alloc (.cells #[.pointer none] 93)) := hb1.alloc (by simp) _
  clear h h1 hi
  go_enter Try.func11, Try.ntmps11
  go_wp2_with fail
  refine hF.mono ?_
  rintro e w1 ⟨rfl, rfl⟩
  go_wp2_with fail
  go_ret
  exact ⟨rfl, hb2⟩

set_option maxRecDepth 20000 in
theorem bclone_any (p : Option Addr) (n c : Nat) (xs : List Int) (w : World) (hr : Rd .u8 w p n c xs) (hn : n ≤ 1099511627776) :
    Calls Try.prog 61 #[.slice p n c] w fun e w' => ∃ p' c', e = .returned (.slice p' n c') ∧ Rd .u8 w' p' n c' xs ∧ Below w.heap.size w w' ∧ (∀ x, p' = some x → 0 < n → w.heap.size ≤ x.block) := by
  have q22 : ∀ (w : World) (a : Option Addr) (n c n' c' : Nat), (binOp .eql 22 (.slice a n c) (.slice none n' c')).run Try.prog w = .ok (.bool a.isNone) w := fun w a n c n' c' => Lib.run_eql_slice_nil w _ _ a n c n' c' Try.underlying22
  obtain ⟨i0, hi0, hz0, hz1, hz2⟩ := info_parts infoU8
  cases p with
  | none =>
    have hn0 : n = 0 := by have := hr.cap; have := hr.nil rfl; omega
    subst hn0
    have hc0 := hr.nil rfl
    subst hc0
    go_enter Try.func61, Try.ntmps61
    go_wp2_with fail
    go_ret
    exact ⟨none, 0, rfl, hr, Below.refl _ _, fun x e => by cases e⟩
  | some ad =>
    have hba := (Below.refl w.heap.size w).alloc (Nat.le_refl _) (.cells #[] 5)
    have hra := hr.below' hba
    clear hr
    go_enter Try.func61, Try.ntmps61
    go_wp2_with (refine wpList_app _ rfl (.tmp 5) (.tmp 6) 22 rfl .u8 5 i0 (.int .u8 0) 1 Try.underlying22 hi0 hz0 hz1 hz2 rfl (w.alloc (.cells #[] 5)).heap.size _ 0 0 [] rfl (Ow.empty _ _ _ _ _) (some ad) n c xs rfl hra ?c1 ?c2 (Nat.le_refl _) ?_)
    case c1 => omega
    case c2 => unfold maxLen; omega
    intro p' c' w' h1 h2
    go_wp2_with fail
    go_ret
    refine ⟨p', c', rfl, h1.rd, hba.trans (h2.mono (Nat.le_succ _)), fun x e h0 => ?_⟩
    subst e
    rcases h1.own with ⟨e0, _⟩ | ho
    · omega
    · exact Nat.le_trans (Nat.le_succ _) (World.ownsRow.lt ho x.block rfl).1

set_option maxRecDepth 20000 in
theorem Read_ok (w : World) (B : Nat) (own : Nat → Nat) (a g : Nat) (d : Dk) (m : PD) (h : DA w B own a g d m) (hr : 0 < m.room) (hw : m.down = false) (hm : m.few) (i : Nat) (hi : i < 8) :
    Calls Try.prog 46 #[.pointer (some ⟨g, 0, none⟩), .int .i64 i] w fun e w' => ∃ p' c', e = .returned (.tuple #[.slice p' (m.f i).told.length c', .int .i64 0]) ∧ Rd .u8 w' p' (m.f i).told.length c' (m.f i).told ∧ Below w.heap.size w w' ∧ (∀ x, p' = some x → 0 < (m.f i).told.length → w.heap.size ≤ x.block) := by
  have hF := file_ok w g d h.dc (by rw [h.room]; exact hr) (h.down.trans hw) i hi
  have hct := h.dc.told hi
  have htn := fl_tn h hi
  have hC := bclone_any _ _ _ _ w (h.fm i hi).told.rd (by rw [htn]; have := hm.told i hi; omega)
  rw [htn] at hC hct
  clear h htn
  generalize (m.f i).told = xs at *
  generalize hln : xs.length = n at *
  clear hln
  generalize d.fl i = fl at *
  obtain ⟨tp, tn, tc, lp, ln, lc, cl⟩ := fl
  dsimp only at *
  go_enter Try.func46, Try.ntmps46
  go_wp2_with fail
  refine hF.mono ?_
  rintro e w1 ⟨rfl, rfl⟩
  go_wp2_with fail
  refine hC.mono ?_
  rintro e w2 ⟨p', c', rfl, h1, h2, h3⟩
  go_wp2_with fail
  go_ret2
  exact ⟨p', c', rfl, h1, h2, h3⟩

end Go.Proofs.Ytpjhadaiodnnaaa.M

namespace Go.Proofs.Ytpjhadaiodnnaaa.M
open Go.ChangeShapes Go.WideShapes Go.ChangeAt Go.RowKit

theorem wp_enterX {P : Program} {op : Oper} {a : Act} {w : World} {K : Act → World → Prop} {Q : Exit → Act → World → Prop} (f : FuncId) (args : Array Value) (he : (execOp a.eval op).run P w = .ok (.enter f args) w) (R : Value → World → Prop) (hc : Calls P f args w fun e w' => ∃ v, e = .returned v ∧ R v w') (h : ∀ v w', R v w' → K (a.put op.dst v) w') : op.wp P a w K Q := by
  unfold Oper.wp
  rw [he]
  refine Calls.mono hc ?_
  rintro e w' ⟨v, rfl, hR⟩
  exact h v w' hR

theorem infoI : (Try.prog.info? 3).map (fun i => (i.zero, i.size, i.bytes)) = some (some (.int .i64 0), 1, 8) := by kernel_rfl

set_option maxRecDepth 20000 in
theorem iclone_any (p : Option Addr) (n c : Nat) (xs : List Int) (w : World) (hr : Rd .i64 w p n c xs) (hn : n ≤ 1099511627776) :
    Calls Try.prog 79 #[.slice p n c] w fun e w' => ∃ p' c', e = .returned (.slice p' n c') ∧ Rd .i64 w' p' n c' xs ∧ Below w.heap.size w w' ∧ (∀ x, p' = some x → w.heap.size ≤ x.block ∧ x.block < w'.heap.size) := by
  have q22 : ∀ (w : World) (a : Option Addr) (n c n' c' : Nat), (binOp .eql 43 (.slice a n c) (.slice none n' c')).run Try.prog w = .ok (.bool a.isNone) w := fun w a n c n' c' => Lib.run_eql_slice_nil w _ _ a n c n' c' Try.underlying43
  obtain ⟨i0, hi0, hz0, hz1, hz2⟩ := info_parts infoI
  cases p with
  | none =>
    have hn0 : n = 0 := by have := hr.cap; have := hr.nil rfl; omega
    subst hn0
    have hc0 := hr.nil rfl
    subst hc0
    go_enter Try.func79, Try.ntmps79
    go_wp2_with fail
    go_ret
    exact ⟨none, 0, rfl, hr, Below.refl _ _, fun x e => by cases e⟩
  | some ad =>
    have hba := (Below.refl w.heap.size w).alloc (Nat.le_refl _) (.cells #[] 3)
    have hra := hr.below' hba
    have ho : OwS .i64 3 (w.alloc (.cells #[] 3)) w.heap.size (some ⟨w.heap.size, 0, none⟩) 0 0 [] := World.ownsRow_made w #[] 0 (Nat.le_refl _) (Nat.zero_le _) rfl
    clear hr
    go_enter Try.func79, Try.ntmps79
    go_wp2_with (refine wpList_app2 _ rfl (.tmp 5) (.tmp 6) 43 rfl .i64 3 i0 (.int .i64 0) 8 Try.underlying43 hi0 hz0 hz1 hz2 rfl w.heap.size _ 0 0 [] rfl ho (some ad) n c xs rfl hra ?c1 ?c2 ?c3 ?_)
    case c1 => omega
    case c2 => unfold maxLen; omega
    case c3 => simp
    intro p' c' w' h1 hg
    have hch := hg.ch (fun k => w.heap.size ≤ k) (fun x e => by cases e; exact Nat.le_refl _)
    have hb2 : Below w.heap.size (w.alloc (.cells #[] 3)) w' := hch.below (by simp) (fun k e => e)
    clear hg hch
    go_wp2_with fail
    go_ret
    exact ⟨p', c', rfl, by simpa using h1.rd, hba.trans hb2, fun x e => h1.lt e⟩

theorem sizeFu : (Try.prog.info? 83).map (·.size) = some 2 := by kernel_rfl

theorem oneFu (n : Int) (p : Option Addr) (l c : Nat) : (#[.int .i64 n, .slice p l c] : Array Value).all (·.oneCell') = true := by simp [Value.oneCell']

theorem row_setRow (w : World) (r : Nat) (cs : Array Value) {old : Array Value} {t : TypeId} (h : w.heap[r]? = some (.cells old t (0, 0))) : (w.setRow r cs).heap[r]? = some (.cells cs t (0, 0)) := by
  unfold World.setRow
  rw [Array.getElem?_modify, if_pos rfl, h]
  rfl

theorem ch_setRow (w : World) (r : Nat) (cs : Array Value) : Ch (fun k => k = r) w (w.setRow r cs) := by
  refine ⟨rfl, rfl, rfl, by simp [World.setRow], fun k _ hk => ?_⟩
  unfold World.setRow
  rw [Array.getElem?_modify, if_neg (fun e => hk e.symm)]

theorem below_setRow2 (w : World) (r : Nat) (cs : Array Value) {B : Nat} (h : B ≤ r) : Below B w (w.setRow r cs) :=
  have hc := ch_setRow w r cs
  ⟨hc.os, hc.tape, hc.output, hc.size, fun k hk => by
    unfold World.setRow
    rw [Array.getElem?_modify, if_neg (by omega)]⟩

/-- While a fuse is cloned: from block b into block r. -/
def FSt (w : World) (b r : Nat) (n : Int) (q : Option Addr) (l c : Nat) (ks : List Int) (V : World) : Prop :=
  V.cell? ⟨b, 0, none⟩ = some (.int .i64 n) ∧ V.cell? ⟨b, 1, none⟩ = some (.slice q l c) ∧ Rd .i64 V q l c ks ∧ V.heap[r]? = some (.cells #[.int .i64 0, .slice none 0 0] 83 (0, 0)) ∧ w.heap.size ≤ r ∧ r < w.heap.size + 1 ∧ Below w.heap.size w V

theorem FSt.stays (w : World) (b r : Nat) (n : Int) (q : Option Addr) (l c : Nat) (ks : List Int) : Stays (FSt w b r n q l c ks) := fun _ _ h hb =>
  ⟨by rw [hb.cell (p := ⟨b, 0, none⟩) (World.block_lt_of_cell? _ _ h.1)]; exact h.1, by rw [hb.cell (p := ⟨b, 1, none⟩) (World.block_lt_of_cell? _ _ h.2.1)]; exact h.2.1, h.2.2.1.below' hb, by rw [hb.block r (Array.getElem?_eq_some_iff.1 h.2.2.2.1).1]; exact h.2.2.2.1, h.2.2.2.2.1, h.2.2.2.2.2.1, h.2.2.2.2.2.2.trans (hb.mono h.2.2.2.2.2.2.size)⟩

theorem FSR.stays (w : World) (b r : Nat) (n : Int) (q : Option Addr) (l c : Nat) (ks : List Int) (p' : Option Addr) (c' : Nat) : Stays (fun U => FSt w b r n q l c ks U ∧ Rd .i64 U p' l c' ks ∧ (∀ x, p' = some x → r < x.block ∧ x.block < U.heap.size)) := fun U U' h hb =>
  ⟨FSt.stays w b r n q l c ks U U' h.1 hb, h.2.1.below' hb, fun x e => ⟨(h.2.2 x e).1, Nat.lt_of_lt_of_le (h.2.2 x e).2 hb.size⟩⟩

/-- When it is cloned. -/
def FE (w : World) (r : Nat) (n : Int) (l : Nat) (ks : List Int) (p' : Option Addr) (c' : Nat) (V : World) : Prop :=
  V.heap[r]? = some (.cells #[.int .i64 n, .slice p' l c'] 83 (0, 0)) ∧ Rd .i64 V p' l c' ks ∧ Below w.heap.size w V ∧ (∀ x, p' = some x → w.heap.size ≤ x.block ∧ x.block < V.heap.size)

theorem FE.stays (w : World) (r : Nat) (n : Int) (l : Nat) (ks : List Int) (p' : Option Addr) (c' : Nat) : Stays (FE w r n l ks p' c') := fun _ _ h hb =>
  ⟨by rw [hb.block r (Array.getElem?_eq_some_iff.1 h.1).1]; exact h.1, h.2.1.below' hb, h.2.2.1.trans (hb.mono h.2.2.1.size), fun x e => ⟨(h.2.2.2 x e).1, Nat.lt_of_lt_of_le (h.2.2.2 x e).2 hb.size⟩⟩

set_option linter.unusedSimpArgs false in
set_option maxRecDepth 20000 in
theorem fclone_any (w : World) (b : Nat) (n : Int) (q : Option Addr) (l c : Nat) (ks : List Int) (h0 : w.cell? ⟨b, 0, none⟩ = some (.int .i64 n)) (h1 : w.cell? ⟨b, 1, none⟩ = some (.slice q l c)) (hr : Rd .i64 w q l c ks) (hl : l ≤ 1099511627776) :
    Calls Try.prog 52 #[.pointer (some ⟨b, 0, none⟩)] w fun e w' => ∃ p' c', e = .returned (.agg #[.int .i64 n, .slice p' l c']) ∧ Rd .i64 w' p' l c' ks ∧ Below w.heap.size w w' ∧ (∀ x, p' = some x → w.heap.size ≤ x.block ∧ x.block < w'.heap.size) := by
  have hb1 : Below w.heap.size w (w.alloc (.cells #[.int .i64 0, .slice none 0 0] 83)) := (Below.refl _ _).alloc (Nat.le_refl _) _
  obtain ⟨r, hrr⟩ : ∃ r, r = w.heap.size := ⟨_, rfl⟩
  have hS0 : FSt w b r n q l c ks (w.alloc (.cells #[.int .i64 0, .slice none 0 0] 83)).drew := FSt.stays w b r n q l c ks _ _ ⟨by rw [hb1.cell (p := ⟨b, 0, none⟩) (World.block_lt_of_cell? _ _ h0)]; exact h0, by rw [hb1.cell (p := ⟨b, 1, none⟩) (World.block_lt_of_cell? _ _ h1)]; exact h1, hr.below' hb1, by rw [hrr]; exact heap_alloc_new _ _, by omega, by omega, hb1⟩ (Below.refl _ _).drew
  have HR : Hid (r = w.heap.size) := hrr
  clear h0 h1 hr hb1
  go_enter Try.func52, Try.ntmps52
  go_wp2_with fail
  rw [← hrr]
  clear hrr
  refine wp_region_det [0, 1, 2, 3, 4, 5, 6, 7, 9] (FSt w b r n q l c ks) (FSt w b r n q l c ks) (by kernel_rfl) hS0 ?_
  refine wpDet_take ?vF0 (FSt.stays w b r n q l c ks) (fun _ h => h) (i := 0) rfl (by kernel_rfl) (by kernel_rfl) (by kernel_rfl) (by kernel_rfl) (fun _ _ _ h => h) (Gives.value (by rfl) ?yF0) ?rF0
  case yF0 => (intro w' hSw; (try dsimp only at hSw); go_simp; try with_reducible rfl)
  (try simp only [Act.put, List.getElem_toArray, List.getElem_cons_zero, List.getElem_cons_succ, List.setIfInBounds_toArray, List.set_cons_zero, List.set_cons_succ])
  refine wpDet_take ?vF1 (FSt.stays w b r n q l c ks) (fun _ h => h) (i := 1) rfl (by kernel_rfl) (by kernel_rfl) (by kernel_rfl) (by kernel_rfl) (fun _ _ _ h => h) (Gives.value (by rfl) ?yF1) ?rF1
  case yF1 => (intro w' hSw; (try dsimp only at hSw); go_simp; try with_reducible rfl)
  (try simp only [Act.put, List.getElem_toArray, List.getElem_cons_zero, List.getElem_cons_succ, List.setIfInBounds_toArray, List.set_cons_zero, List.set_cons_succ])
  refine wpDet_take ?vF2 (FSt.stays w b r n q l c ks) (fun _ h => h) (i := 2) rfl (by kernel_rfl) (by kernel_rfl) (by kernel_rfl) (by kernel_rfl) (fun _ _ _ h => h) (Gives.value (by rfl) ?yF2) ?rF2
  case yF2 => (intro w' hSw; (try dsimp only at hSw); go_simp; try with_reducible rfl)
  (try simp only [Act.put, List.getElem_toArray, List.getElem_cons_zero, List.getElem_cons_succ, List.setIfInBounds_toArray, List.set_cons_zero, List.set_cons_succ])
  refine wpDet_take ?vF3 (FSt.stays w b r n q l c ks) (fun _ h => h) (i := 3) rfl (by kernel_rfl) (by kernel_rfl) (by kernel_rfl) (by kernel_rfl) (fun _ _ _ h => h) (Gives.value (by rfl) ?yF3) ?rF3
  case yF3 => (intro w' hSw; have hq0 := hSw.1; (try dsimp only at hSw); go_simp; try with_reducible rfl)
  (try simp only [Act.put, List.getElem_toArray, List.getElem_cons_zero, List.getElem_cons_succ, List.setIfInBounds_toArray, List.set_cons_zero, List.set_cons_succ])
  refine wpDet_take ?vF4 (FSt.stays w b r n q l c ks) (fun _ h => h) (i := 4) rfl (by kernel_rfl) (by kernel_rfl) (by kernel_rfl) (by kernel_rfl) (fun _ _ _ h => h) (Gives.value (by rfl) ?yF4) ?rF4
  case yF4 => (intro w' hSw; (try dsimp only at hSw); go_simp; try with_reducible rfl)
  (try simp only [Act.put, List.getElem_toArray, List.getElem_cons_zero, List.getElem_cons_succ, List.setIfInBounds_toArray, List.set_cons_zero, List.set_cons_succ])
  refine wpDet_take ?vF5 (FSt.stays w b r n q l c ks) (fun _ h => h) (i := 5) rfl (by kernel_rfl) (by kernel_rfl) (by kernel_rfl) (by kernel_rfl) (fun _ _ _ h => h) (Gives.value (by rfl) ?yF5) ?rF5
  case yF5 => (intro w' hSw; (try dsimp only at hSw); go_simp; try with_reducible rfl)
  (try simp only [Act.put, List.getElem_toArray, List.getElem_cons_zero, List.getElem_cons_succ, List.setIfInBounds_toArray, List.set_cons_zero, List.set_cons_succ])
  refine wpDet_take ?vF6 (FSt.stays w b r n q l c ks) (fun _ h => h) (i := 6) rfl (by kernel_rfl) (by kernel_rfl) (by kernel_rfl) (by kernel_rfl) (fun _ _ _ h => h) (Gives.value (by rfl) ?yF6) ?rF6
  case yF6 => (intro w' hSw; (try dsimp only at hSw); go_simp; try with_reducible rfl)
  (try simp only [Act.put, List.getElem_toArray, List.getElem_cons_zero, List.getElem_cons_succ, List.setIfInBounds_toArray, List.set_cons_zero, List.set_cons_succ])
  refine wpDet_take ?vF7 (FSt.stays w b r n q l c ks) (fun _ h => h) (i := 7) rfl (by kernel_rfl) (by kernel_rfl) (by kernel_rfl) (by kernel_rfl) (fun _ _ _ h => h) (Gives.value (by rfl) ?yF7) ?rF7
  case yF7 => (intro w' hSw; have hq0 := hSw.2.1; (try dsimp only at hSw); go_simp; try with_reducible rfl)
  (try simp only [Act.put, List.getElem_toArray, List.getElem_cons_zero, List.getElem_cons_succ, List.setIfInBounds_toArray, List.set_cons_zero, List.set_cons_succ])
  refine wpDet_ready (rs := [8]) (by kernel_rfl) (by simp) (AllDet.cons rfl (fun V hV K hK => ?_) AllDet.nil)
  rw [if_pos (by rfl)]
  have hC := iclone_any q l c ks V hV.2.2.1 hl
  have hrV := (Array.getElem?_eq_some_iff.1 hV.2.2.2.1).1
  refine wp_enterX 79 #[.slice q l c] (by first | (go_simp; done) | (go_simp; rfl)) (fun v V' => ∃ p' c', v = .slice p' l c' ∧ Rd .i64 V' p' l c' ks ∧ Below V.heap.size V V' ∧ (∀ x, p' = some x → V.heap.size ≤ x.block ∧ x.block < V'.heap.size)) (hC.mono fun e V' ⟨p', c', h1, h2⟩ => ⟨_, h1, p', c', rfl, h2⟩) ?_
  rintro v V' ⟨p', c', rfl, h2, h3, h4⟩
  have hst := FSt.stays w b r n q l c ks V V' hV h3
  refine hK.out (fun U => FSt w b r n q l c ks U ∧ Rd .i64 U p' l c' ks ∧ (∀ x, p' = some x → r < x.block ∧ x.block < U.heap.size)) _ _ (fun U U' h hb => ⟨FSt.stays w b r n q l c ks U U' h.1 hb, h.2.1.below' hb, fun x e => ⟨(h.2.2 x e).1, Nat.lt_of_lt_of_le (h.2.2 x e).2 hb.size⟩⟩) (fun _ _ h => h.1) ⟨hst, h2, fun x e => ⟨Nat.lt_of_lt_of_le hrV (h4 x e).1, (h4 x e).2⟩⟩ ?_
  clear hK K hC hV h2 h3 h4 hst hrV
  (try simp only [Act.put, List.getElem_toArray, List.getElem_cons_zero, List.getElem_cons_succ, List.setIfInBounds_toArray, List.set_cons_zero, List.set_cons_succ])
  refine wpDet_take ?vF9 (FSR.stays w b r n q l c ks p' c') (fun _ h => h.1) (i := 9) rfl (by kernel_rfl) (by kernel_rfl) (by kernel_rfl) (by kernel_rfl) (fun _ _ _ h => h) (Gives.value (by rfl) ?yF9) ?rF9
  case yF9 => (intro w' hSw; (try dsimp only at hSw); go_simp; try with_reducible rfl)
  (try simp only [Act.put, List.getElem_toArray, List.getElem_cons_zero, List.getElem_cons_succ, List.setIfInBounds_toArray, List.set_cons_zero, List.set_cons_succ])
  refine wpDet_ready (rs := [10]) (by kernel_rfl) (by simp) (AllDet.cons rfl (fun V hV K hK => ?_) AllDet.nil)
  rw [if_pos (by rfl)]
  refine wp_store_row 83 _ _ rfl r #[.int .i64 n, .slice p' l c'] rfl rfl _ _ hV.1.2.2.2.1 sizeFu rfl (oneFu _ _ _ _) ?_
  have hb9 := hV.1.2.2.2.2.2.2.trans (below_setRow2 V r #[.int .i64 n, .slice p' l c'] hV.1.2.2.2.2.1)
  have hr9 := hV.2.1.ch (S := fun k => k = r) (ch_setRow V r #[.int .i64 n, .slice p' l c']) (fun x e e2 => absurd (hV.2.2 x e).1 (by rw [e2]; exact Nat.lt_irrefl _))
  refine hK.out (FE w r n l ks p' c') _ _ (FE.stays w r n l ks p' c') (no_lean (by kernel_rfl)) ⟨row_setRow V r _ hV.1.2.2.2.1, hr9, hb9, fun x e => ⟨Nat.le_trans hV.1.2.2.2.2.1 (Nat.le_of_lt (hV.2.2 x e).1), Nat.lt_of_lt_of_le (hV.2.2 x e).2 (ch_setRow V r _).size⟩⟩ ?_
  clear hK K hV hb9 hr9
  (try simp only [Act.put, List.getElem_toArray, List.getElem_cons_zero, List.getElem_cons_succ, List.setIfInBounds_toArray, List.set_cons_zero, List.set_cons_succ])
  refine wpDet_done (by kernel_rfl) (fun w8 hV => ?_) _
  obtain ⟨hrow, hrd, hbl, hfr⟩ := hV
  go_wp2_with fail
  exact bodyPost_ret (results_cell_row (p := 2) rfl _ _ r _ _ _ _ rfl hrow Try.underlying83 rfl sizeFu) rfl ⟨p', c', rfl, hrd, hbl, hfr⟩

end Go.Proofs.Ytpjhadaiodnnaaa.M

namespace Go.Proofs.Ytpjhadaiodnnaaa.M
open Go.ChangeShapes Go.WideShapes Go.ChangeAt Go.RowKit

set_option maxRecDepth 20000 in
theorem Arm_ok (w : World) (B : Nat) (own : Nat → Nat) (a g : Nat) (d : Dk) (m : PD) (h : DA w B own a g d m) (hr : 0 < m.room) (hw : m.down = false) (n : Nat) (hn : 1 ≤ n) (q : Option Addr) (l c : Nat) (ks : List Int) (hy : Rd .i64 w q l c ks) (hl : l ≤ 1099511627776) :
    Calls Try.prog 19 #[.pointer (some ⟨g, 0, none⟩), .int .i64 n, .slice q l c] w fun e w' => e = .returned (.int .i64 0) ∧ ∃ d2, DA w' B own a g d2 { m with left := n, keep := ks } ∧ Ch (fun k => k = g) w w' := by
  have hR := ready_any w g d h.dc (by rw [h.room]; exact hr)
  rw [h.down, hw] at hR
  have hb1 : Below w.heap.size w (w.alloc (.cells #[.int .i64 n, .slice q l c] 83)) := (Below.refl _ _).alloc (Nat.le_refl _) _
  have hC := fclone_any (w.alloc (.cells #[.int .i64 n, .slice q l c] 83)) w.heap.size n q l c ks (by simp) (by simp) (hy.below' hb1) hl
  have hlt := h.dc.lt
  have hcr := h.dc.room
  go_enter Try.func19, Try.ntmps19
  go_wp2_with fail
  refine hR.mono ?_
  rintro e w1 ⟨rfl, rfl⟩
  go_wp2_with fail
  refine hC.mono ?_
  rintro e w2 ⟨p', c', rfl, hrd, hb2, hfr⟩
  have hbt := hb1.trans (hb2.mono (by simp))
  have h2 := h.below hbt
  have hc26 := h2.dc.left
  have hf26 := h2.dc.free 26
  have hf27 := h2.dc.free 27
  have hd1 := h2.dc.setLeft n
  have hc27 := hd1.keep
  have hd2 := hd1.setKeep p' l c'
  have hc2 := Ch.cells2 w2 g 26 27 (.int .i64 n) (.slice p' l c')
  have hfin : DA ((w2.setCell ⟨g, 26, none⟩ (.int .i64 n)).setCell ⟨g, 27, none⟩ (.slice p' l c')) B own a g _ { m with left := n, keep := ks } :=
    DA.mend hc2 hd2 h2.room h2.down rfl h2.cl h2.fm hrd h2.og (fun x e => ⟨h.fr _ (Nat.le_trans hb1.size (hfr x e).1), (by have := Nat.le_trans hb1.size (hfr x e).1; omega), (hfr x e).2⟩) h2.bg h2.fr
  clear hC hR hd1 hd2 h2 hrd hfr h hb1 hb2 hy
  generalize d.left = dl at *
  generalize d.kp = dp at *
  generalize d.kn = dn at *
  generalize d.kc = dc at *
  go_wp2_with fail
  go_ret
  exact ⟨rfl, _, hfin, (Ch.of_below hbt _).trans hc2⟩

set_option maxRecDepth 20000 in
theorem Clear_ok (w : World) (B : Nat) (own : Nat → Nat) (a g : Nat) (d : Dk) (m : PD) (h : DA w B own a g d m) (hr : 0 < m.room) (hw : m.down = false) (hm : m.few) (i : Nat) (hi : i < 8) :
    Calls Try.prog 84 #[.pointer (some ⟨g, 0, none⟩), .int .i64 i] w fun e w' => e = .returned (.int .i64 (goneE (m.gone 1))) ∧ ∃ own2 d2, DA w' B own2 a g d2 (m.act 1 fun _ => upP m.f i ⟨[], (m.f i).lasts, true⟩) ∧ (∀ k, k < w.heap.size → own2 k = own k) ∧ Ch (fun k => k = g ∨ own k = mark a i) w w' := by
  have hF := file_ok w g d h.dc (by rw [h.room]; exact hr) (h.down.trans hw) i hi
  have hA1 := h.alloc (.cells #[.pointer (some ⟨g, 2 + i * 3, none⟩)] 93)
  have hbx : (w.alloc (.cells #[.pointer (some ⟨g, 2 + i * 3, none⟩)] 93)).cell? ⟨w.heap.size, 0, none⟩ = some (.pointer (some ⟨g, 2 + i * 3, none⟩)) := by simp
  have hne : w.heap.size ≠ g := Nat.ne_of_gt h.dc.lt
  have hsz : w.heap.size < (w.alloc (.cells #[.pointer (some ⟨g, 2 + i * 3, none⟩)] 93)).heap.size := by simp
  have hc0 : Ch (fun k => k = g ∨ own k = mark a i) w (w.alloc (.cells #[.pointer (some ⟨g, 2 + i * 3, none⟩)] 93)) := Ch.of_below ((Below.refl _ _).alloc (Nat.le_refl _) _) _
  have hact := act_any 101 cfClear #[.pointer (some ⟨w.heap.size, 0, none⟩)] (fun k => k = g ∨ own k = mark a i) _ B own a g d m hA1 (Or.inl rfl) 1 (fun _ => upP m.f i ⟨[], (m.f i).lasts, true⟩)
    (fun _ _ => upP_few hm i _ (by dsimp only; exact Nat.zero_le _)) (by have := hm.keep; omega) hm.left (fun w1 d1 m1 n1 hA hf _ hc => by
      have := clear1_any w1 B own a g d1 m1 hA i hi n1 w.heap.size (by rw [hc.cell (p := ⟨w.heap.size, 0, none⟩) hsz hne]; exact hbx)
      rw [hf] at this
      exact this)
  clear hA1 h hbx
  go_enter Try.func84, Try.ntmps84
  go_wp2_with fail
  refine hF.mono ?_
  rintro e w1 ⟨rfl, rfl⟩
  go_wp2_with fail
  refine hact.mono ?_
  rintro e w2 ⟨rfl, own2, d2, hA2, ho2, hc2⟩
  go_wp2_with fail
  go_ret
  exact ⟨rfl, own2, d2, hA2, fun k hk => ho2 k (Nat.lt_trans hk hsz), hc0.trans hc2⟩

end Go.Proofs.Ytpjhadaiodnnaaa.M

namespace Go.Proofs.Ytpjhadaiodnnaaa.M
open Go.ChangeShapes Go.WideShapes Go.ChangeAt Go.RowKit

set_option maxRecDepth 20000 in
theorem Arm_low (w : World) (B : Nat) (own : Nat → Nat) (a g : Nat) (d : Dk) (m : PD) (h : DA w B own a g d m) (hr : 0 < m.room) (hw : m.down = false) (n : Int) (hn : n < 1) (q : Option Addr) (l c : Nat) :
    Calls Try.prog 19 #[.pointer (some ⟨g, 0, none⟩), .int .i64 n, .slice q l c] w fun e w' => e = .returned (.int .i64 1) ∧ w' = w := by
  have hR := ready_any w g d h.dc (by rw [h.room]; exact hr)
  rw [h.down, hw] at hR
  clear h
  go_enter Try.func19, Try.ntmps19
  go_wp2_with fail
  refine hR.mono ?_
  rintro e w1 ⟨rfl, rfl⟩
  go_wp2_with fail
  go_ret
  exact ⟨rfl, rfl⟩

set_option maxRecDepth 20000 in
theorem Append_full (w : World) (B : Nat) (own : Nat → Nat) (a g : Nat) (d : Dk) (m : PD) (h : DA w B own a g d m) (hr : 0 < m.room) (hw : m.down = false) (hm : m.few) (i : Nat) (hi : i < 8) (q : Option Addr) (l c : Nat) (hl : l ≤ 549755813888) (hu : m.room < m.used + l) (hrm : m.room ≤ 4194304) :
    Calls Try.prog 11 #[.pointer (some ⟨g, 0, none⟩), .int .i64 i, .slice q l c] w fun e w' => e = .returned (.int .i64 7) ∧ Below w.heap.size w w' := by
  have hb1 : Below w.heap.size w (w.alloc (.cells #[.slice q l c] 22)) := (Below.refl _ _).alloc (Nat.le_refl _) _
  have h1 := h.below hb1
  have hb2 : Below w.heap.size w ((w.alloc (.cells #[.slice q l c] 22)).alloc (.cells #[.pointer (some ⟨g, 2 + i * 3, none⟩)] 93)) := hb1.alloc (by simp) _
  have hF := file_ok (w.alloc (.cells #[.slice q l c] 22)) g d h1.dc (by rw [h.room]; exact hr) (h.down.trans hw) i hi
  have h2 := h.below hb2
  have hbb : ((w.alloc (.cells #[.slice q l c] 22)).alloc (.cells #[.pointer (some ⟨g, 2 + i * 3, none⟩)] 93)).cell? ⟨w.heap.size, 0, none⟩ = some (.slice q l c) := by simp
  have hre := h.room
  have hmu : m.used ≤ 4398046511104 := by
    have t0 := hm.told 0 (by decide)
    have t1 := hm.told 1 (by decide)
    have t2 := hm.told 2 (by decide)
    have t3 := hm.told 3 (by decide)
    have t4 := hm.told 4 (by decide)
    have t5 := hm.told 5 (by decide)
    have t6 := hm.told 6 (by decide)
    have t7 := hm.told 7 (by decide)
    unfold PD.used
    omega
  generalize hW2 : (w.alloc (.cells #[.slice q l c] 22)).alloc (.cells #[.pointer (some ⟨g, 2 + i * 3, none⟩)] 93) = w2 at *
  have hU : ∀ n, Calls Try.prog 38 #[.pointer (some ⟨g, 0, none⟩)] (w2.drewN n) fun e w' => e = .returned (.int .i64 m.used) ∧ w' = w2.drewN n := by
    intro n
    have h3 := h2.below (below_drewN (Below.refl w2.heap.size w2) n)
    have := used_any (w2.drewN n) g d h3.dc (by rw [h.room]; exact hr) (fun j hj => by rw [fl_tn h hj]; have := hm.told j hj; omega)
    rw [used_eq h3] at this
    exact this
  have hcr : w2.cell? ⟨g, 0, none⟩ = some (.int .i64 m.room) := by rw [← hre]; exact h2.dc.room
  clear h h1 h2 hm
  go_enter Try.func11, Try.ntmps11
  go_wp2_with fail
  refine hF.mono ?_
  rintro e w1 ⟨rfl, rfl⟩
  go_wp2_with fail
  go_quiet ((go_at_call 38; exact Calls.quiet_of_same (hU _)))
  go_wp2_with fail
  go_ret
  exact ⟨rfl, below_drewN hb2 _⟩

def PD.clearAt (m : PD) (i : Nat) : PD := m.act 1 fun _ => upP m.f i ⟨[], (m.f i).lasts, true⟩
def PD.syncAt (m : PD) (i : Nat) : PD := m.act 1 fun _ => upP m.f i ⟨(m.f i).told, (m.f i).told, false⟩
def PD.putAt (m : PD) (i : Nat) (b : List Int) : PD := m.act b.length fun n => upP m.f i { m.f i with told := (m.f i).told ++ b.take n }

/-- A disk with at most s bytes in each row. -/
structure PD.ok (m : PD) (s : Nat) : Prop where
  r0 : 0 < m.room
  r1 : m.room ≤ 4194304
  told : ∀ i, i < 8 → (m.f i).told.length ≤ s
  lasts : ∀ i, i < 8 → (m.f i).lasts.length ≤ s
  keep : m.keep.length ≤ 16384
  left : m.left ≤ 9223372036854775807

theorem PD.ok.few {m : PD} {s : Nat} (h : m.ok s) (hs : s ≤ 549755813888) : m.few :=
  ⟨fun i hi => Nat.le_trans (h.told i hi) hs, fun i hi => Nat.le_trans (h.lasts i hi) hs, Nat.le_trans h.keep (by decide), h.left⟩

theorem PD.ok.mono {m : PD} {s t : Nat} (h : m.ok s) (hs : s ≤ t) : m.ok t :=
  ⟨h.r0, h.r1, fun i hi => Nat.le_trans (h.told i hi) hs, fun i hi => Nat.le_trans (h.lasts i hi) hs, h.keep, h.left⟩

theorem rest_le {f : PF} {s : Nat} (h1 : f.told.length ≤ s) (h2 : f.lasts.length ≤ s) (k : Int) : (f.rest k).length ≤ s := by
  unfold PF.rest
  by_cases h : k < 0
  · rw [if_pos h]; exact h2
  · rw [if_neg h, List.length_take]; exact Nat.le_trans (Nat.min_le_right _ _) h1

theorem PD.ok.fall {m : PD} {s : Nat} (h : m.ok s) (keep : List Int) : (m.fall keep).ok s := by
  refine ⟨h.r0, h.r1, fun i hi => ?_, fun i hi => ?_, Nat.zero_le _, Nat.zero_le _⟩
  · show (fallN m.f keep 8 i).told.length ≤ s
    unfold fallN
    rw [if_pos hi]
    exact rest_le (h.told i hi) (h.lasts i hi) _
  · show (fallN m.f keep 8 i).lasts.length ≤ s
    unfold fallN
    rw [if_pos hi]
    exact rest_le (h.told i hi) (h.lasts i hi) _

theorem PD.ok.act {m : PD} {s : Nat} (h : m.ok s) (n : Nat) (X : Nat → Nat → PF) (hX : ∀ n i, i < 8 → (X n i).told.length ≤ s ∧ (X n i).lasts.length ≤ s) : (m.act n X).ok s := by
  unfold PD.act
  by_cases h0 : m.left = 0
  · rw [if_pos h0]
    exact ⟨h.r0, h.r1, fun i hi => (hX n i hi).1, fun i hi => (hX n i hi).2, h.keep, h.left⟩
  · rw [if_neg h0]
    by_cases h1 : m.left ≤ n
    · rw [if_pos h1]
      exact PD.ok.fall (m := { m with f := X m.left }) ⟨h.r0, h.r1, fun i hi => (hX _ i hi).1, fun i hi => (hX _ i hi).2, h.keep, h.left⟩ _
    · rw [if_neg h1]
      exact ⟨h.r0, h.r1, fun i hi => (hX n i hi).1, fun i hi => (hX n i hi).2, h.keep, Nat.le_trans (Nat.sub_le _ _) h.left⟩

theorem PD.ok.up {m : PD} {s t : Nat} (h : m.ok s) (hst : s ≤ t) (i : Nat) (x : PF) (h1 : x.told.length ≤ t) (h2 : x.lasts.length ≤ t) : ∀ j, j < 8 → (upP m.f i x j).told.length ≤ t ∧ (upP m.f i x j).lasts.length ≤ t := by
  intro j hj
  by_cases e : j = i
  · rw [e, upP_same]; exact ⟨h1, h2⟩
  · rw [upP_other _ _ e]; exact ⟨Nat.le_trans (h.told j hj) hst, Nat.le_trans (h.lasts j hj) hst⟩

theorem PD.ok.clearAt {m : PD} {s : Nat} (h : m.ok s) {i : Nat} (hi : i < 8) : (m.clearAt i).ok s :=
  h.act _ _ fun _ => h.up (Nat.le_refl _) i _ (Nat.zero_le _) (h.lasts i hi)
theorem PD.ok.syncAt {m : PD} {s : Nat} (h : m.ok s) {i : Nat} (hi : i < 8) : (m.syncAt i).ok s :=
  h.act _ _ fun _ => h.up (Nat.le_refl _) i _ (h.told i hi) (h.told i hi)
theorem PD.ok.putAt {m : PD} {s : Nat} (h : m.ok s) {i : Nat} (hi : i < 8) (b : List Int) : (m.putAt i b).ok (s + b.length) :=
  (h.mono (Nat.le_add_right _ _)).act _ _ fun n => h.up (Nat.le_add_right _ _) i _ (by
    dsimp only
    rw [List.length_append, List.length_take]
    have := h.told i hi
    omega) (by dsimp only; have := h.lasts i hi; omega)

end Go.Proofs.Ytpjhadaiodnnaaa.M
