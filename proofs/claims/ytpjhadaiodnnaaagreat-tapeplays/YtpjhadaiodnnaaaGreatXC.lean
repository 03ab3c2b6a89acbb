/-
  Own text: contracts of what Append does, and of Append.
  Own text: contracts of Append, Crash, Arm and Read.
  Own text: contracts of New, Start, Crash, Read, and of an Append that is refused.
  Own text: contracts of slices.Clone over numbers, of the fuse's clone, of Arm and of Clear.
  Own text: the bytes of a reel, in plain words, and the contract of sealed.
  Own text: bytes.Clone in memory of the call's own; the contract of follow.
  Own text: whether a base and records are short enough for a reel: the contract of fits.
  Own text: contracts of Arm and Clear.
  Own text: what a tape does to its disk: Read in memory of the call's own, and the contract of write.
  Own text: a slice of values whose row, from wherever in it on, is its owner's.
  Own text: a tape in memory, beside its disk; the contract of Save where it is done.
  Own text: the contract of Save where it is done.
  Own text: the contracts of a tape's Sync where it is done, of Len, of Kept and of Base.
-/
import Derived.Test.YtpjhadaiodnnaaaGreatXB
import Derived.Test.YtpjhadaiodnnaaaGreatXA
import Derived.Lib.Bytes
section
namespace Go.Proofs.YtpjhadaiodnnaaaGreat.M
open Go.ChangeShapes Go.WideShapes Go.ChangeAt Go.RowKit

theorem wp_enter {P : Program} {op : Oper} {a : Act} {w : World} {K : Act → World → Prop} {Q : Exit → Act → World → Prop} (f : FuncId) (args : Array Value) (he : (execOp a.eval op).run P w = .ok (.enter f args) w) (R : World → Prop) (v : Value) (hc : Calls P f args w fun e w' => e = .returned v ∧ R w') (h : ∀ w', R w' → K (a.put op.dst v) w') : op.wp P a w K Q := by
  unfold Oper.wp
  rw [he]
  refine Calls.mono hc ?_
  rintro e w' ⟨rfl, hR⟩
  exact h w' hR

theorem Rd.take {k : IntKind} {w : World} {p : Option Addr} {n c : Nat} {xs : List Int} (h : Rd k w p n c xs) {j : Nat} (hj : j ≤ n) : Rd k w p j c (xs.take j) := by
  have hl := h.len
  refine ⟨by simp; omega, Nat.le_trans hj h.cap, h.nil, fun h0 => ?_⟩
  obtain ⟨b, o, hp, hc⟩ := h.cells (by omega)
  refine ⟨b, o, hp, fun i hi => ?_⟩
  rw [hc i (by omega), List.getD_eq_getElem?_getD, List.getD_eq_getElem?_getD, List.getElem?_take_of_lt hi]

theorem DA.below {w w' : World} {B : Nat} {own : Nat → Nat} {a g : Nat} {d : Dk} {m : PD} (h : DA w B own a g d m) (hb : Below w.heap.size w w') : DA w' B own a g d m :=
  h.ch (S := fun _ => False) (Ch.of_below hb _) (fun e => e) (fun _ _ _ _ e => e) (fun _ _ e => e) (fun _ _ => rfl) (fun k hk => h.fr k (Nat.le_trans hb.size hk))

def AS (w : World) (B : Nat) (own : Nat → Nat) (a g : Nat) (d : Dk) (m : PD) (i bf bb : Nat) (q : Option Addr) (l c : Nat) (ys : List Int) (V : World) : Prop :=
  V.cell? ⟨bf, 0, none⟩ = some (.pointer (some ⟨g, 2 + i * 3, none⟩)) ∧ V.cell? ⟨bb, 0, none⟩ = some (.slice q l c) ∧ DA V B own a g d m ∧ Rd .u8 V q l c ys ∧ Below w.heap.size w V

theorem AS.stays (w : World) (B : Nat) (own : Nat → Nat) (a g : Nat) (d : Dk) (m : PD) (i bf bb : Nat) (q : Option Addr) (l c : Nat) (ys : List Int) : Stays (AS w B own a g d m i bf bb q l c ys) := fun _ _ h hb =>
  ⟨by rw [hb.cell (p := ⟨bf, 0, none⟩) (World.block_lt_of_cell? _ _ h.1)]; exact h.1, by rw [hb.cell (p := ⟨bb, 0, none⟩) (World.block_lt_of_cell? _ _ h.2.1)]; exact h.2.1, h.2.2.1.below hb, h.2.2.2.1.below' hb, h.2.2.2.2.trans (hb.mono h.2.2.2.2.size)⟩

/-- What an append of ys to file i leaves. -/
def AR (w : World) (B : Nat) (own : Nat → Nat) (a g : Nat) (m : PD) (i : Nat) (ys : List Int) (V : World) : Prop :=
  ∃ own2 d2, DA V B own2 a g d2 { m with f := upP m.f i { m.f i with told := (m.f i).told ++ ys } } ∧ (∀ k, k < w.heap.size → own2 k = own k) ∧ Ch (fun k => k = g ∨ own k = mark a i) w V

theorem AR.stays (w : World) (B : Nat) (own : Nat → Nat) (a g : Nat) (m : PD) (i : Nat) (ys : List Int) : Stays (AR w B own a g m i ys) := fun _ _ ⟨own2, d2, h1, h2, h3⟩ hb => ⟨own2, d2, h1.below hb, h2, h3.trans (Ch.of_below hb _)⟩

def A0 (g i bf bb : Nat) (q : Option Addr) (l c : Nat) (V : World) : Prop := V.cell? ⟨bf, 0, none⟩ = some (.pointer (some ⟨g, 2 + i * 3, none⟩)) ∧ V.cell? ⟨bb, 0, none⟩ = some (.slice q l c)

theorem AR.stays2 (w : World) (B : Nat) (own : Nat → Nat) (a g : Nat) (m : PD) (i : Nat) (ys : List Int) (bf bb : Nat) (q : Option Addr) (l c : Nat) : Stays (fun V => AR w B own a g m i ys V ∧ A0 g i bf bb q l c V) := fun V V' h hb =>
  ⟨AR.stays w B own a g m i ys V V' h.1 hb, by rw [hb.cell (p := ⟨bf, 0, none⟩) (World.block_lt_of_cell? _ _ h.2.1)]; exact h.2.1, by rw [hb.cell (p := ⟨bb, 0, none⟩) (World.block_lt_of_cell? _ _ h.2.2)]; exact h.2.2⟩

set_option linter.unusedSimpArgs false in
set_option maxRecDepth 20000 in
theorem append1_any (w : World) (B : Nat) (own : Nat → Nat) (a g : Nat) (d : Dk) (m : PD) (h : DA w B own a g d m) (i : Nat) (hi : i < 8) (hB : B ≤ w.heap.size) (n bf bb : Nat) (q : Option Addr) (l c : Nat) (ys : List Int) (hr : Rd .u8 w q l c ys) (hn : n ≤ l) (hl : l ≤ 549755813888) (ht : (m.f i).told.length ≤ 549755813888)
    (hbf : w.cell? ⟨bf, 0, none⟩ = some (.pointer (some ⟨g, 2 + i * 3, none⟩))) (hbb : w.cell? ⟨bb, 0, none⟩ = some (.slice q l c)) (hobf : ¬ (bf = g ∨ own bf = mark a i)) (hobb : ¬ (bb = g ∨ own bb = mark a i)) :
    Calls Tryz.prog 85 #[.int .i64 n, .pointer (some ⟨bf, 0, none⟩), .pointer (some ⟨bb, 0, none⟩)] w fun e w' => e = .returned (.tuple #[]) ∧ AR w B own a g m i (ys.take n) w' := by
  have hcap := hr.cap
  have hnil := hr.nil
  have hS0 : AS w B own a g d m i bf bb q l c ys w.drew := AS.stays w B own a g d m i bf bb q l c ys w _ ⟨hbf, hbb, h, hr, Below.refl _ _⟩ (Below.refl _ _).drew
  clear h hr hbf hbb
  go_enter Tryz.func85, Tryz.ntmps85
  go_wp2_with fail
  refine wp_region_det [0, 1, 2, 3] (A0 g i bf bb q l c) (AS w B own a g d m i bf bb q l c ys) (by kernel_rfl) hS0 ?_
  refine wpDet_take ?vA0 (AS.stays w B own a g d m i bf bb q l c ys) (fun _ h => ⟨h.1, h.2.1⟩) (i := 0) rfl (by kernel_rfl) (by kernel_rfl) (by kernel_rfl) (by kernel_rfl) (fun _ _ _ h => h) (Gives.value (by rfl) ?yA0) ?rA0
  case yA0 => (intro w' hSw; have hq0 := hSw.1; (try dsimp only at hSw); go_simp; try with_reducible rfl)
  (try simp only [Act.put, List.getElem_toArray, List.getElem_cons_zero, List.getElem_cons_succ, List.setIfInBounds_toArray, List.set_cons_zero, List.set_cons_succ])
  refine wpDet_take ?vA1 (AS.stays w B own a g d m i bf bb q l c ys) (fun _ h => ⟨h.1, h.2.1⟩) (i := 1) rfl (by kernel_rfl) (by kernel_rfl) (by kernel_rfl) (by kernel_rfl) (fun _ _ _ h => h) (Gives.value (by rfl) ?yA1) ?rA1
  case yA1 => (intro w' hSw; have hq0 := hSw.2; (try dsimp only at hSw); go_simp; try with_reducible rfl)
  (try simp only [Act.put, List.getElem_toArray, List.getElem_cons_zero, List.getElem_cons_succ, List.setIfInBounds_toArray, List.set_cons_zero, List.set_cons_succ])
  refine wpDet_take ?vA2 (AS.stays w B own a g d m i bf bb q l c ys) (fun _ h => ⟨h.1, h.2.1⟩) (i := 2) rfl (by kernel_rfl) (by kernel_rfl) (by kernel_rfl) (by kernel_rfl) (fun _ _ _ h => h) (Gives.value (by rfl) ?yA2) ?rA2
  case yA2 => (intro w' hSw; (try dsimp only at hSw); go_simp; try with_reducible rfl)
  (try simp only [Act.put, List.getElem_toArray, List.getElem_cons_zero, List.getElem_cons_succ, List.setIfInBounds_toArray, List.set_cons_zero, List.set_cons_succ])
  refine wpDet_take (.slice q n c) (AS.stays w B own a g d m i bf bb q l c ys) (fun _ h => ⟨h.1, h.2.1⟩) (i := 3) rfl (by kernel_rfl) (by kernel_rfl) (by kernel_rfl) (by kernel_rfl) (fun _ _ _ h => h) (Gives.value (by rfl) ?yA3) ?rA3
  case yA3 => (intro w' hSw; (try dsimp only at hSw); go_simp; try (intro hh; exfalso; omega))
  (try simp only [Act.put, List.getElem_toArray, List.getElem_cons_zero, List.getElem_cons_succ, List.setIfInBounds_toArray, List.set_cons_zero, List.set_cons_succ])
  refine wpDet_ready (rs := [4]) (by kernel_rfl) (by simp) (AllDet.cons rfl (fun V hV K hK => ?_) AllDet.nil)
  rw [if_pos (by rfl)]
  have hP := dput_any V B own a g d m hV.2.2.1 i hi (Nat.le_trans hB hV.2.2.2.2.size) q n c (ys.take n) (hV.2.2.2.1.take hn) (by omega)
  have hbl := hV.2.2.2.2
  have hq1 := hV.1
  have hq2 := hV.2.1
  refine wp_enter 86 #[.pointer (some ⟨g, 2 + i * 3, none⟩), .slice q n c] (by first | (go_simp; done) | (go_simp; rfl)) (fun V' => _) _ hP ?_
  clear hP hV
  rintro V' ⟨own2, d2, hA2, ho2, hc2⟩
  refine hK.out (fun V => AR w B own a g m i (ys.take n) V ∧ A0 g i bf bb q l c V) _ _ (AR.stays2 w B own a g m i (ys.take n) bf bb q l c) (fun _ _ h => h.2) ⟨⟨own2, d2, hA2, fun k hk => ho2 k (Nat.lt_of_lt_of_le hk hbl.size), (Ch.of_below hbl _).trans hc2⟩, ⟨by rw [hc2.cell (p := ⟨bf, 0, none⟩) (World.block_lt_of_cell? _ _ hq1) hobf]; exact hq1, by rw [hc2.cell (p := ⟨bb, 0, none⟩) (World.block_lt_of_cell? _ _ hq2) hobb]; exact hq2⟩⟩ ?_
  clear hK K hA2 ho2 hc2 hbl hq1 hq2
  (try simp only [Act.put, List.getElem_toArray, List.getElem_cons_zero, List.getElem_cons_succ, List.setIfInBounds_toArray, List.set_cons_zero, List.set_cons_succ])
  refine wpDet_done (by kernel_rfl) (fun w8 hV => ?_) _
  go_wp2_with fail
  go_end0
  exact ⟨rfl, hV.1⟩

end Go.Proofs.YtpjhadaiodnnaaaGreat.M
end

section
namespace Go.Proofs.YtpjhadaiodnnaaaGreat.M
open Go.ChangeShapes Go.WideShapes Go.ChangeAt Go.RowKit

/-- How many bytes are told. -/
def PD.used (m : PD) : Nat := ((m.f 0).told.length + (m.f 1).told.length + (m.f 2).told.length + (m.f 3).told.length + (m.f 4).told.length + (m.f 5).told.length + (m.f 6).told.length + (m.f 7).told.length)

theorem used_eq {w : World} {B : Nat} {own : Nat → Nat} {a g : Nat} {d : Dk} {m : PD} (h : DA w B own a g d m) : usedN d 8 = m.used := by
  unfold PD.used
  rw [← fl_tn h (i := 0) (by decide), ← fl_tn h (i := 1) (by decide), ← fl_tn h (i := 2) (by decide), ← fl_tn h (i := 3) (by decide), ← fl_tn h (i := 4) (by decide), ← fl_tn h (i := 5) (by decide), ← fl_tn h (i := 6) (by decide), ← fl_tn h (i := 7) (by decide)]
  simp [usedN]

theorem mark_pos (a i : Nat) : mark a i ≠ 0 := by unfold mark; omega

set_option maxRecDepth 20000 in
theorem Append_gen (w : World) (B : Nat) (own : Nat → Nat) (a g : Nat) (d : Dk) (m : PD) (h : DA w B own a g d m) (hr : 0 < m.room) (hw : m.down = false) (hm : m.few) (hB : B ≤ w.heap.size) (i : Nat) (hi : i < 8) (q : Option Addr) (l c : Nat) (ys : List Int) (hy : Rd .u8 w q l c ys) (hqg : ∀ x, q = some x → 0 < l → x.block ≠ g) (hl : l ≤ 549755813888) (hu : m.used + l ≤ m.room) (hrm : m.room ≤ 4194304) :
    Calls Tryz.prog 52 #[.pointer (some ⟨g, 0, none⟩), .int .i64 i, .slice q l c] w fun e w' => e = .returned (.int .i64 (goneE (m.gone l))) ∧ ∃ own2 d2, DA w' B own2 a g d2 (m.act l fun n => upP m.f i { m.f i with told := (m.f i).told ++ ys.take n }) ∧ (∀ k, k < w.heap.size → own2 k = own k) ∧ Ch (fun k => k = g ∨ own k = mark a i) w w' := by
  have hb1 : Below w.heap.size w (w.alloc (.cells #[.slice q l c] 40)) := (Below.refl _ _).alloc (Nat.le_refl _) _
  have h1 := h.below hb1
  have hb2 : Below w.heap.size w ((w.alloc (.cells #[.slice q l c] 40)).alloc (.cells #[.pointer (some ⟨g, 2 + i * 3, none⟩)] 101)) := hb1.alloc (by simp) _
  have hF := file_ok (w.alloc (.cells #[.slice q l c] 40)) g d h1.dc (by rw [h.room]; exact hr) (h.down.trans hw) i hi
  have h2 := h.below hb2
  have hy2 := hy.below' hb2
  have hbb : ((w.alloc (.cells #[.slice q l c] 40)).alloc (.cells #[.pointer (some ⟨g, 2 + i * 3, none⟩)] 101)).cell? ⟨w.heap.size, 0, none⟩ = some (.slice q l c) := by simp
  have hbf : ((w.alloc (.cells #[.slice q l c] 40)).alloc (.cells #[.pointer (some ⟨g, 2 + i * 3, none⟩)] 101)).cell? ⟨w.heap.size + 1, 0, none⟩ = some (.pointer (some ⟨g, 2 + i * 3, none⟩)) := by simp
  have hlt := h.dc.lt
  have hob1 : ¬ (w.heap.size = g ∨ own w.heap.size = mark a i) := by
    rintro (e | e)
    · omega
    · rw [h.fr _ (Nat.le_refl _)] at e; exact mark_pos a i e.symm
  have hob2 : ¬ (w.heap.size + 1 = g ∨ own (w.heap.size + 1) = mark a i) := by
    rintro (e | e)
    · omega
    · rw [h.fr _ (by omega)] at e; exact mark_pos a i e.symm
  have hsz : w.heap.size + 2 ≤ ((w.alloc (.cells #[.slice q l c] 40)).alloc (.cells #[.pointer (some ⟨g, 2 + i * 3, none⟩)] 101)).heap.size := by simp
  have hre := h.room
  generalize hW2 : (w.alloc (.cells #[.slice q l c] 40)).alloc (.cells #[.pointer (some ⟨g, 2 + i * 3, none⟩)] 101) = w2 at *
  have hU : ∀ n, Calls Tryz.prog 84 #[.pointer (some ⟨g, 0, none⟩)] (w2.drewN n) fun e w' => e = .returned (.int .i64 m.used) ∧ w' = w2.drewN n := by
    intro n
    have h3 := h2.below (below_drewN (Below.refl w2.heap.size w2) n)
    have := used_any (w2.drewN n) g d h3.dc (by rw [h.room]; exact hr) (fun j hj => by rw [fl_tn h hj]; have := hm.told j hj; omega)
    rw [used_eq h3] at this
    exact this
  have hact : ∀ n, Calls Tryz.prog 68 #[.pointer (some ⟨g, 0, none⟩), .int .i64 l, .func (.func 85) #[] #[.pointer (some ⟨w.heap.size + 1, 0, none⟩), .pointer (some ⟨w.heap.size, 0, none⟩)]] (w2.drewN n) fun e w' => e = .returned (.int .i64 (goneE (m.gone l))) ∧ ∃ own2 d2, DA w' B own2 a g d2 (m.act l fun n => upP m.f i { m.f i with told := (m.f i).told ++ ys.take n }) ∧ (∀ k, k < w.heap.size → own2 k = own k) ∧ Ch (fun k => k = g ∨ own k = mark a i) w w' := by
    intro n
    have hbd := below_drewN (Below.refl w2.heap.size w2) n
    have h3 := h2.below hbd
    have hbt := hb2.trans (hbd.mono hb2.size)
    refine (act_any 85 cfAppend _ (fun k => k = g ∨ own k = mark a i) _ B own a g d m h3 (Or.inl rfl) l (fun n => upP m.f i { m.f i with told := (m.f i).told ++ ys.take n })
      (fun n1 hn1 => upP_few hm i _ (by have := hm.told i hi; dsimp only; rw [List.length_append, List.length_take]; omega)) (by have := hm.keep; omega) hm.left (fun w4 d4 m4 n4 hA hf hn4 hc => by
        have hy4 := (hy2.below' hbd).ch0 hc (fun x e e0 e2 => ?_)
        · have := append1_any w4 B own a g d4 m4 hA i hi (Nat.le_trans (Nat.le_trans hB hbt.size) hc.size) n4 (w.heap.size + 1) w.heap.size q l c ys hy4 hn4 hl (by rw [hf]; exact hm.told i hi)
            (by rw [hc.cell (p := ⟨w.heap.size + 1, 0, none⟩) (by show w.heap.size + 1 < w2.heap.size; omega) (by show ¬ w.heap.size + 1 = g; omega)]; exact hbf)
            (by rw [hc.cell (p := ⟨w.heap.size, 0, none⟩) (by show w.heap.size < w2.heap.size; omega) (by show ¬ w.heap.size = g; omega)]; exact hbb) hob2 hob1
          unfold AR at this
          rw [hf] at this
          exact this
        · exact hqg x e e0 e2)).mono ?_
    rintro e w5 ⟨rfl, own2, d2, hA2, ho2, hc2⟩
    exact ⟨rfl, own2, d2, hA2, fun k hk => ho2 k (by show k < w2.heap.size; omega), (Ch.of_below hbt _).trans hc2⟩
  have hcr : w2.cell? ⟨g, 0, none⟩ = some (.int .i64 m.room) := by rw [← hre]; exact h2.dc.room
  clear h h1 h2 hm hy hy2 hob1 hob2
  go_enter Tryz.func52, Tryz.ntmps52
  go_wp2_with fail
  refine hF.mono ?_
  rintro e w1 ⟨rfl, rfl⟩
  go_wp2_with fail
  go_quiet ((go_at_call 84; exact Calls.quiet_of_same (hU _)))
  go_wp2_with fail
  refine (hact _).mono ?_
  rintro e w5 ⟨rfl, own2, d2, hA2, ho2, hc2⟩
  go_wp2_with fail
  go_ret
  exact ⟨rfl, own2, d2, hA2, ho2, hc2⟩

theorem Append_ok (w : World) (B : Nat) (own : Nat → Nat) (a g : Nat) (d : Dk) (m : PD) (h : DA w B own a g d m) (hr : 0 < m.room) (hw : m.down = false) (hm : m.few) (hB : B ≤ w.heap.size) (i : Nat) (hi : i < 8) (q : Option Addr) (l c : Nat) (ys : List Int) (hy : Rd .u8 w q l c ys) (hqg : ∀ x, q = some x → x.block ≠ g) (hl : l ≤ 549755813888) (hu : m.used + l ≤ m.room) (hrm : m.room ≤ 4194304) :
    Calls Tryz.prog 52 #[.pointer (some ⟨g, 0, none⟩), .int .i64 i, .slice q l c] w fun e w' => e = .returned (.int .i64 (goneE (m.gone l))) ∧ ∃ own2 d2, DA w' B own2 a g d2 (m.act l fun n => upP m.f i { m.f i with told := (m.f i).told ++ ys.take n }) ∧ (∀ k, k < w.heap.size → own2 k = own k) ∧ Ch (fun k => k = g ∨ own k = mark a i) w w' :=
  Append_gen w B own a g d m h hr hw hm hB i hi q l c ys hy (fun x e _ => hqg x e) hl hu hrm

end Go.Proofs.YtpjhadaiodnnaaaGreat.M
end

section
namespace Go.Proofs.YtpjhadaiodnnaaaGreat.M
open Go.ChangeShapes Go.WideShapes Go.ChangeAt Go.RowKit

/-- A disk that was just made. -/
def pd0 (room : Nat) : PD := ⟨room, false, fun _ => ⟨[], [], false⟩, 0, []⟩

theorem New_ok (w : World) (a r : Nat) (h1 : 1 ≤ r) (h2 : r ≤ 4194304) :
    Calls Tryz.prog 6 #[.int .i64 r] w fun e w' => e = .returned (.tuple #[.pointer (some ⟨w.heap.size, 0, none⟩), .int .i64 0]) ∧ DA w' w.heap.size (fun _ => 0) a w.heap.size (dk0 r) (pd0 r) ∧ Below w.heap.size w w' := by
  refine (new_any w r h1 h2).mono ?_
  rintro e w' ⟨rfl, hd, hb⟩
  refine ⟨rfl, ⟨hd, rfl, rfl, rfl, fun _ _ => rfl, fun i _ => ⟨OwS.nil _ _ _ _, OwS.nil _ _ _ _, (fun _ e => by cases e), (fun _ e => by cases e), (fun _ => List.prefix_refl _), (fun e => by cases e)⟩, ⟨rfl, Nat.le_refl _, fun _ => rfl, fun h => absurd h (Nat.lt_irrefl _)⟩, rfl, (fun _ e => by cases e), Nat.le_refl _, fun _ _ => rfl⟩, hb⟩

theorem Start_ok (w : World) (B : Nat) (own : Nat → Nat) (a g : Nat) (d : Dk) (m : PD) (h : DA w B own a g d m) (hr : 0 < m.room) :
    Calls Tryz.prog 23 #[.pointer (some ⟨g, 0, none⟩)] w fun e w' => e = .returned (.int .i64 0) ∧ DA w' B own a g { d with down := false } { m with down := false } ∧ Ch (fun k => k = g) w w' := by
  refine (start_any w g d h.dc (by rw [h.room]; exact hr)).mono ?_
  rintro e w' ⟨rfl, rfl⟩
  have hc := Ch.setCell w ⟨g, 1, none⟩ (.bool false)
  exact ⟨rfl, DA.mend hc (h.dc.setDown false) h.room rfl h.left h.cl h.fm h.keep h.og h.ok h.bg h.fr, hc⟩

set_option maxRecDepth 20000 in
theorem Crash_gen (w : World) (B : Nat) (own : Nat → Nat) (a g : Nat) (d : Dk) (m : PD) (h : DA w B own a g d m) (hr : 0 < m.room) (hw : m.down = false) (hm : m.few) (q : Option Addr) (l c : Nat) (keep : List Int) (hy : Rd .i64 w q l c keep) (hqg : ∀ x, q = some x → 0 < l → x.block ≠ g) (hl : l ≤ 1099511627776) :
    Calls Tryz.prog 17 #[.pointer (some ⟨g, 0, none⟩), .slice q l c] w fun e w' => e = .returned (.int .i64 0) ∧ ∃ d2, DA w' B own a g d2 (m.fall keep) ∧ Ch (fun k => k = g) w w' := by
  have hR := ready_any w g d h.dc (by rw [h.room]; exact hr)
  rw [h.down, hw] at hR
  have hF := fall_any w B own a g d m h q l c keep hy hl hqg (fun i hi => by have := hm.told i hi; omega)
  clear h hy
  go_enter Tryz.func17, Tryz.ntmps17
  go_wp2_with fail
  refine hR.mono ?_
  rintro e w1 ⟨rfl, rfl⟩
  go_wp2_with fail
  refine hF.mono ?_
  rintro e w2 ⟨rfl, d2, hA, hc⟩
  go_wp2_with fail
  go_ret
  exact ⟨rfl, d2, hA, hc⟩

theorem Crash_ok (w : World) (B : Nat) (own : Nat → Nat) (a g : Nat) (d : Dk) (m : PD) (h : DA w B own a g d m) (hr : 0 < m.room) (hw : m.down = false) (hm : m.few) (q : Option Addr) (l c : Nat) (keep : List Int) (hy : Rd .i64 w q l c keep) (hqg : ∀ x, q = some x → x.block ≠ g) (hl : l ≤ 1099511627776) :
    Calls Tryz.prog 17 #[.pointer (some ⟨g, 0, none⟩), .slice q l c] w fun e w' => e = .returned (.int .i64 0) ∧ ∃ d2, DA w' B own a g d2 (m.fall keep) ∧ Ch (fun k => k = g) w w' :=
  Crash_gen w B own a g d m h hr hw hm q l c keep hy (fun x e _ => hqg x e) hl

set_option maxRecDepth 20000 in
theorem Append_none (w : World) (B : Nat) (own : Nat → Nat) (a g : Nat) (d : Dk) (m : PD) (h : DA w B own a g d m) (hr : 0 < m.room) (hw : m.down = false) (i : Int) (hi : i < 0 ∨ 8 ≤ i) (q : Option Addr) (l c : Nat) :
    Calls Tryz.prog 52 #[.pointer (some ⟨g, 0, none⟩), .int .i64 i, .slice q l c] w fun e w' => e = .returned (.int .i64 51) ∧ Below w.heap.size w w' := by
  have hb1 : Below w.heap.size w (w.alloc (.cells #[.slice q l c] 40)) := (Below.refl _ _).alloc (Nat.le_refl _) _
  have h1 := h.below hb1
  have hF := file_none (w.alloc (.cells #[.slice q l c] 40)) g d h1.dc (by rw [h.room]; exact hr) (h.down.trans hw) i hi
  have hb2 : Below w.heap.size w ((w.alloc (.cells #[.slice q l c] 40)).alloc (.cells #[.pointer none] 101)) := hb1.alloc (by simp) _
  clear h h1 hi
  go_enter Tryz.func52, Tryz.ntmps52
  go_wp2_with fail
  refine hF.mono ?_
  rintro e w1 ⟨rfl, rfl⟩
  go_wp2_with fail
  go_ret
  exact ⟨rfl, hb2⟩

set_option maxRecDepth 20000 in
theorem bclone_any (p : Option Addr) (n c : Nat) (xs : List Int) (w : World) (hr : Rd .u8 w p n c xs) (hn : n ≤ 1099511627776) :
    Calls Tryz.prog 53 #[.slice p n c] w fun e w' => ∃ p' c', e = .returned (.slice p' n c') ∧ Rd .u8 w' p' n c' xs ∧ Below w.heap.size w w' ∧ (∀ x, p' = some x → 0 < n → w.heap.size ≤ x.block) := by
  have q22 : ∀ (w : World) (a : Option Addr) (n c n' c' : Nat), (binOp .eql 40 (.slice a n c) (.slice none n' c')).run Tryz.prog w = .ok (.bool a.isNone) w := fun w a n c n' c' => Lib.run_eql_slice_nil w _ _ a n c n' c' Tryz.underlying40
  obtain ⟨i0, hi0, hz0, hz1, hz2⟩ := info_parts infoU8
  cases p with
  | none =>
    have hn0 : n = 0 := by have := hr.cap; have := hr.nil rfl; omega
    subst hn0
    have hc0 := hr.nil rfl
    subst hc0
    go_enter Tryz.func53, Tryz.ntmps53
    go_wp2_with fail
    go_ret
    exact ⟨none, 0, rfl, hr, Below.refl _ _, fun x e => by cases e⟩
  | some ad =>
    have hba := (Below.refl w.heap.size w).alloc (Nat.le_refl _) (.cells #[] 5)
    have hra := hr.below' hba
    clear hr
    go_enter Tryz.func53, Tryz.ntmps53
    go_wp2_with (refine wpList_app _ rfl (.tmp 5) (.tmp 6) 40 rfl .u8 5 i0 (.int .u8 0) 1 Tryz.underlying40 hi0 hz0 hz1 hz2 rfl (w.alloc (.cells #[] 5)).heap.size _ 0 0 [] rfl (Ow.empty _ _ _ _ _) (some ad) n c xs rfl hra ?c1 ?c2 (Nat.le_refl _) ?_)
    case c1 => omega
    case c2 => unfold maxLen; omega
    intro p' c' w' h1 h2
    go_wp2_with fail
    go_ret
    refine ⟨p', c', rfl, h1.rd, hba.trans (h2.mono (Nat.le_succ _)), fun x e h0 => ?_⟩
    subst e
    rcases h1.own with ⟨e0, _⟩ | ho
    · omega
    · exact Nat.le_trans (Nat.le_succ _) (World.ownsRow.lt ho x.block rfl).1

set_option maxRecDepth 20000 in
theorem Read_ok (w : World) (B : Nat) (own : Nat → Nat) (a g : Nat) (d : Dk) (m : PD) (h : DA w B own a g d m) (hr : 0 < m.room) (hw : m.down = false) (hm : m.few) (i : Nat) (hi : i < 8) :
    Calls Tryz.prog 31 #[.pointer (some ⟨g, 0, none⟩), .int .i64 i] w fun e w' => ∃ p' c', e = .returned (.tuple #[.slice p' (m.f i).told.length c', .int .i64 0]) ∧ Rd .u8 w' p' (m.f i).told.length c' (m.f i).told ∧ Below w.heap.size w w' ∧ (∀ x, p' = some x → 0 < (m.f i).told.length → w.heap.size ≤ x.block) := by
  have hF := file_ok w g d h.dc (by rw [h.room]; exact hr) (h.down.trans hw) i hi
  have hct := h.dc.told hi
  have htn := fl_tn h hi
  have hC := bclone_any _ _ _ _ w (h.fm i hi).told.rd (by rw [htn]; have := hm.told i hi; omega)
  rw [htn] at hC hct
  clear h htn
  generalize (m.f i).told = xs at *
  generalize hln : xs.length = n at *
  clear hln
  generalize d.fl i = fl at *
  obtain ⟨tp, tn, tc, lp, ln, lc, cl⟩ := fl
  dsimp only at *
  go_enter Tryz.func31, Tryz.ntmps31
  go_wp2_with fail
  refine hF.mono ?_
  rintro e w1 ⟨rfl, rfl⟩
  go_wp2_with fail
  refine hC.mono ?_
  rintro e w2 ⟨p', c', rfl, h1, h2, h3⟩
  go_wp2_with fail
  go_ret2
  exact ⟨p', c', rfl, h1, h2, h3⟩

end Go.Proofs.YtpjhadaiodnnaaaGreat.M
end

section
namespace Go.Proofs.YtpjhadaiodnnaaaGreat.M
open Go.ChangeShapes Go.WideShapes Go.ChangeAt Go.RowKit

theorem wp_enterX {P : Program} {op : Oper} {a : Act} {w : World} {K : Act → World → Prop} {Q : Exit → Act → World → Prop} (f : FuncId) (args : Array Value) (he : (execOp a.eval op).run P w = .ok (.enter f args) w) (R : Value → World → Prop) (hc : Calls P f args w fun e w' => ∃ v, e = .returned v ∧ R v w') (h : ∀ v w', R v w' → K (a.put op.dst v) w') : op.wp P a w K Q := by
  unfold Oper.wp
  rw [he]
  refine Calls.mono hc ?_
  rintro e w' ⟨v, rfl, hR⟩
  exact h v w' hR

theorem infoI : (Tryz.prog.info? 3).map (fun i => (i.zero, i.size, i.bytes)) = some (some (.int .i64 0), 1, 8) := by kernel_rfl

set_option maxRecDepth 20000 in
theorem iclone_any (p : Option Addr) (n c : Nat) (xs : List Int) (w : World) (hr : Rd .i64 w p n c xs) (hn : n ≤ 1099511627776) :
    Calls Tryz.prog 82 #[.slice p n c] w fun e w' => ∃ p' c', e = .returned (.slice p' n c') ∧ Rd .i64 w' p' n c' xs ∧ Below w.heap.size w w' ∧ (∀ x, p' = some x → w.heap.size ≤ x.block ∧ x.block < w'.heap.size) := by
  have q22 : ∀ (w : World) (a : Option Addr) (n c n' c' : Nat), (binOp .eql 42 (.slice a n c) (.slice none n' c')).run Tryz.prog w = .ok (.bool a.isNone) w := fun w a n c n' c' => Lib.run_eql_slice_nil w _ _ a n c n' c' Tryz.underlying42
  obtain ⟨i0, hi0, hz0, hz1, hz2⟩ := info_parts infoI
  cases p with
  | none =>
    have hn0 : n = 0 := by have := hr.cap; have := hr.nil rfl; omega
    subst hn0
    have hc0 := hr.nil rfl
    subst hc0
    go_enter Tryz.func82, Tryz.ntmps82
    go_wp2_with fail
    go_ret
    exact ⟨none, 0, rfl, hr, Below.refl _ _, fun x e => by cases e⟩
  | some ad =>
    have hba := (Below.refl w.heap.size w).alloc (Nat.le_refl _) (.cells #[] 3)
    have hra := hr.below' hba
    have ho : OwS .i64 3 (w.alloc (.cells #[] 3)) w.heap.size (some ⟨w.heap.size, 0, none⟩) 0 0 [] := World.ownsRow_made w #[] 0 (Nat.le_refl _) (Nat.zero_le _) rfl
    clear hr
    go_enter Tryz.func82, Tryz.ntmps82
    go_wp2_with (refine wpList_app2 _ rfl (.tmp 5) (.tmp 6) 42 rfl .i64 3 i0 (.int .i64 0) 8 Tryz.underlying42 hi0 hz0 hz1 hz2 rfl w.heap.size _ 0 0 [] rfl ho (some ad) n c xs rfl hra ?c1 ?c2 ?c3 ?_)
    case c1 => omega
    case c2 => unfold maxLen; omega
    case c3 => simp
    intro p' c' w' h1 hg
    have hch := hg.ch (fun k => w.heap.size ≤ k) (fun x e => by cases e; exact Nat.le_refl _)
    have hb2 : Below w.heap.size (w.alloc (.cells #[] 3)) w' := hch.below (by simp) (fun k e => e)
    clear hg hch
    go_wp2_with fail
    go_ret
    exact ⟨p', c', rfl, by simpa using h1.rd, hba.trans hb2, fun x e => h1.lt e⟩

theorem sizeFu : (Tryz.prog.info? 75).map (·.size) = some 2 := by kernel_rfl

theorem oneFu (n : Int) (p : Option Addr) (l c : Nat) : (#[.int .i64 n, .slice p l c] : Array Value).all (·.oneCell') = true := by simp [Value.oneCell']

theorem row_setRow (w : World) (r : Nat) (cs : Array Value) {old : Array Value} {t : TypeId} (h : w.heap[r]? = some (.cells old t (0, 0))) : (w.setRow r cs).heap[r]? = some (.cells cs t (0, 0)) := by
  unfold World.setRow
  rw [Array.getElem?_modify, if_pos rfl, h]
  rfl

theorem ch_setRow (w : World) (r : Nat) (cs : Array Value) : Ch (fun k => k = r) w (w.setRow r cs) := by
  refine ⟨rfl, rfl, rfl, by simp [World.setRow], fun k _ hk => ?_⟩
  unfold World.setRow
  rw [Array.getElem?_modify, if_neg (fun e => hk e.symm)]

theorem below_setRow2 (w : World) (r : Nat) (cs : Array Value) {B : Nat} (h : B ≤ r) : Below B w (w.setRow r cs) :=
  have hc := ch_setRow w r cs
  ⟨hc.os, hc.tape, hc.output, hc.size, fun k hk => by
    unfold World.setRow
    rw [Array.getElem?_modify, if_neg (by omega)]⟩

/-- While a fuse is cloned: from block b into block r. -/
def FSt (w : World) (b r : Nat) (n : Int) (q : Option Addr) (l c : Nat) (ks : List Int) (V : World) : Prop :=
  V.cell? ⟨b, 0, none⟩ = some (.int .i64 n) ∧ V.cell? ⟨b, 1, none⟩ = some (.slice q l c) ∧ Rd .i64 V q l c ks ∧ V.heap[r]? = some (.cells #[.int .i64 0, .slice none 0 0] 75 (0, 0)) ∧ w.heap.size ≤ r ∧ r < w.heap.size + 1 ∧ Below w.heap.size w V

theorem FSt.stays (w : World) (b r : Nat) (n : Int) (q : Option Addr) (l c : Nat) (ks : List Int) : Stays (FSt w b r n q l c ks) := fun _ _ h hb =>
  ⟨by rw [hb.cell (p := ⟨b, 0, none⟩) (World.block_lt_of_cell? _ _ h.1)]; exact h.1, by rw [hb.cell (p := ⟨b, 1, none⟩) (World.block_lt_of_cell? _ _ h.2.1)]; exact h.2.1, h.2.2.1.below' hb, by rw [hb.block r (Array.getElem?_eq_some_iff.1 h.2.2.2.1).1]; exact h.2.2.2.1, h.2.2.2.2.1, h.2.2.2.2.2.1, h.2.2.2.2.2.2.trans (hb.mono h.2.2.2.2.2.2.size)⟩

theorem FSR.stays (w : World) (b r : Nat) (n : Int) (q : Option Addr) (l c : Nat) (ks : List Int) (p' : Option Addr) (c' : Nat) : Stays (fun U => FSt w b r n q l c ks U ∧ Rd .i64 U p' l c' ks ∧ (∀ x, p' = some x → r < x.block ∧ x.block < U.heap.size)) := fun U U' h hb =>
  ⟨FSt.stays w b r n q l c ks U U' h.1 hb, h.2.1.below' hb, fun x e => ⟨(h.2.2 x e).1, Nat.lt_of_lt_of_le (h.2.2 x e).2 hb.size⟩⟩

/-- When it is cloned. -/
def FE (w : World) (r : Nat) (n : Int) (l : Nat) (ks : List Int) (p' : Option Addr) (c' : Nat) (V : World) : Prop :=
  V.heap[r]? = some (.cells #[.int .i64 n, .slice p' l c'] 75 (0, 0)) ∧ Rd .i64 V p' l c' ks ∧ Below w.heap.size w V ∧ (∀ x, p' = some x → w.heap.size ≤ x.block ∧ x.block < V.heap.size)

theorem FE.stays (w : World) (r : Nat) (n : Int) (l : Nat) (ks : List Int) (p' : Option Addr) (c' : Nat) : Stays (FE w r n l ks p' c') := fun _ _ h hb =>
  ⟨by rw [hb.block r (Array.getElem?_eq_some_iff.1 h.1).1]; exact h.1, h.2.1.below' hb, h.2.2.1.trans (hb.mono h.2.2.1.size), fun x e => ⟨(h.2.2.2 x e).1, Nat.lt_of_lt_of_le (h.2.2.2 x e).2 hb.size⟩⟩

set_option linter.unusedSimpArgs false in
set_option maxRecDepth 20000 in
theorem fclone_any (w : World) (b : Nat) (n : Int) (q : Option Addr) (l c : Nat) (ks : List Int) (h0 : w.cell? ⟨b, 0, none⟩ = some (.int .i64 n)) (h1 : w.cell? ⟨b, 1, none⟩ = some (.slice q l c)) (hr : Rd .i64 w q l c ks) (hl : l ≤ 1099511627776) :
    Calls Tryz.prog 50 #[.pointer (some ⟨b, 0, none⟩)] w fun e w' => ∃ p' c', e = .returned (.agg #[.int .i64 n, .slice p' l c']) ∧ Rd .i64 w' p' l c' ks ∧ Below w.heap.size w w' ∧ (∀ x, p' = some x → w.heap.size ≤ x.block ∧ x.block < w'.heap.size) := by
  have hb1 : Below w.heap.size w (w.alloc (.cells #[.int .i64 0, .slice none 0 0] 75)) := (Below.refl _ _).alloc (Nat.le_refl _) _
  obtain ⟨r, hrr⟩ : ∃ r, r = w.heap.size := ⟨_, rfl⟩
  have hS0 : FSt w b r n q l c ks (w.alloc (.cells #[.int .i64 0, .slice none 0 0] 75)).drew := FSt.stays w b r n q l c ks _ _ ⟨by rw [hb1.cell (p := ⟨b, 0, none⟩) (World.block_lt_of_cell? _ _ h0)]; exact h0, by rw [hb1.cell (p := ⟨b, 1, none⟩) (World.block_lt_of_cell? _ _ h1)]; exact h1, hr.below' hb1, by rw [hrr]; exact heap_alloc_new _ _, by omega, by omega, hb1⟩ (Below.refl _ _).drew
  have HR : Hid (r = w.heap.size) := hrr
  clear h0 h1 hr hb1
  go_enter Tryz.func50, Tryz.ntmps50
  go_wp2_with fail
  rw [← hrr]
  clear hrr
  refine wp_region_det [0, 1, 2, 3, 4, 5, 6, 7, 9] (FSt w b r n q l c ks) (FSt w b r n q l c ks) (by kernel_rfl) hS0 ?_
  refine wpDet_take ?vF0 (FSt.stays w b r n q l c ks) (fun _ h => h) (i := 0) rfl (by kernel_rfl) (by kernel_rfl) (by kernel_rfl) (by kernel_rfl) (fun _ _ _ h => h) (Gives.value (by rfl) ?yF0) ?rF0
  case yF0 => (intro w' hSw; (try dsimp only at hSw); go_simp; try with_reducible rfl)
  (try simp only [Act.put, List.getElem_toArray, List.getElem_cons_zero, List.getElem_cons_succ, List.setIfInBounds_toArray, List.set_cons_zero, List.set_cons_succ])
  refine wpDet_take ?vF1 (FSt.stays w b r n q l c ks) (fun _ h => h) (i := 1) rfl (by kernel_rfl) (by kernel_rfl) (by kernel_rfl) (by kernel_rfl) (fun _ _ _ h => h) (Gives.value (by rfl) ?yF1) ?rF1
  case yF1 => (intro w' hSw; (try dsimp only at hSw); go_simp; try with_reducible rfl)
  (try simp only [Act.put, List.getElem_toArray, List.getElem_cons_zero, List.getElem_cons_succ, List.setIfInBounds_toArray, List.set_cons_zero, List.set_cons_succ])
  refine wpDet_take ?vF2 (FSt.stays w b r n q l c ks) (fun _ h => h) (i := 2) rfl (by kernel_rfl) (by kernel_rfl) (by kernel_rfl) (by kernel_rfl) (fun _ _ _ h => h) (Gives.value (by rfl) ?yF2) ?rF2
  case yF2 => (intro w' hSw; (try dsimp only at hSw); go_simp; try with_reducible rfl)
  (try simp only [Act.put, List.getElem_toArray, List.getElem_cons_zero, List.getElem_cons_succ, List.setIfInBounds_toArray, List.set_cons_zero, List.set_cons_succ])
  refine wpDet_take ?vF3 (FSt.stays w b r n q l c ks) (fun _ h => h) (i := 3) rfl (by kernel_rfl) (by kernel_rfl) (by kernel_rfl) (by kernel_rfl) (fun _ _ _ h => h) (Gives.value (by rfl) ?yF3) ?rF3
  case yF3 => (intro w' hSw; have hq0 := hSw.1; (try dsimp only at hSw); go_simp; try with_reducible rfl)
  (try simp only [Act.put, List.getElem_toArray, List.getElem_cons_zero, List.getElem_cons_succ, List.setIfInBounds_toArray, List.set_cons_zero, List.set_cons_succ])
  refine wpDet_take ?vF4 (FSt.stays w b r n q l c ks) (fun _ h => h) (i := 4) rfl (by kernel_rfl) (by kernel_rfl) (by kernel_rfl) (by kernel_rfl) (fun _ _ _ h => h) (Gives.value (by rfl) ?yF4) ?rF4
  case yF4 => (intro w' hSw; (try dsimp only at hSw); go_simp; try with_reducible rfl)
  (try simp only [Act.put, List.getElem_toArray, List.getElem_cons_zero, List.getElem_cons_succ, List.setIfInBounds_toArray, List.set_cons_zero, List.set_cons_succ])
  refine wpDet_take ?vF5 (FSt.stays w b r n q l c ks) (fun _ h => h) (i := 5) rfl (by kernel_rfl) (by kernel_rfl) (by kernel_rfl) (by kernel_rfl) (fun _ _ _ h => h) (Gives.value (by rfl) ?yF5) ?rF5
  case yF5 => (intro w' hSw; (try dsimp only at hSw); go_simp; try with_reducible rfl)
  (try simp only [Act.put, List.getElem_toArray, List.getElem_cons_zero, List.getElem_cons_succ, List.setIfInBounds_toArray, List.set_cons_zero, List.set_cons_succ])
  refine wpDet_take ?vF6 (FSt.stays w b r n q l c ks) (fun _ h => h) (i := 6) rfl (by kernel_rfl) (by kernel_rfl) (by kernel_rfl) (by kernel_rfl) (fun _ _ _ h => h) (Gives.value (by rfl) ?yF6) ?rF6
  case yF6 => (intro w' hSw; (try dsimp only at hSw); go_simp; try with_reducible rfl)
  (try simp only [Act.put, List.getElem_toArray, List.getElem_cons_zero, List.getElem_cons_succ, List.setIfInBounds_toArray, List.set_cons_zero, List.set_cons_succ])
  refine wpDet_take ?vF7 (FSt.stays w b r n q l c ks) (fun _ h => h) (i := 7) rfl (by kernel_rfl) (by kernel_rfl) (by kernel_rfl) (by kernel_rfl) (fun _ _ _ h => h) (Gives.value (by rfl) ?yF7) ?rF7
  case yF7 => (intro w' hSw; have hq0 := hSw.2.1; (try dsimp only at hSw); go_simp; try with_reducible rfl)
  (try simp only [Act.put, List.getElem_toArray, List.getElem_cons_zero, List.getElem_cons_succ, List.setIfInBounds_toArray, List.set_cons_zero, List.set_cons_succ])
  refine wpDet_ready (rs := [8]) (by kernel_rfl) (by simp) (AllDet.cons rfl (fun V hV K hK => ?_) AllDet.nil)
  rw [if_pos (by rfl)]
  have hC := iclone_any q l c ks V hV.2.2.1 hl
  have hrV := (Array.getElem?_eq_some_iff.1 hV.2.2.2.1).1
  refine wp_enterX 82 #[.slice q l c] (by first | (go_simp; done) | (go_simp; rfl)) (fun v V' => ∃ p' c', v = .slice p' l c' ∧ Rd .i64 V' p' l c' ks ∧ Below V.heap.size V V' ∧ (∀ x, p' = some x → V.heap.size ≤ x.block ∧ x.block < V'.heap.size)) (hC.mono fun e V' ⟨p', c', h1, h2⟩ => ⟨_, h1, p', c', rfl, h2⟩) ?_
  rintro v V' ⟨p', c', rfl, h2, h3, h4⟩
  have hst := FSt.stays w b r n q l c ks V V' hV h3
  refine hK.out (fun U => FSt w b r n q l c ks U ∧ Rd .i64 U p' l c' ks ∧ (∀ x, p' = some x → r < x.block ∧ x.block < U.heap.size)) _ _ (fun U U' h hb => ⟨FSt.stays w b r n q l c ks U U' h.1 hb, h.2.1.below' hb, fun x e => ⟨(h.2.2 x e).1, Nat.lt_of_lt_of_le (h.2.2 x e).2 hb.size⟩⟩) (fun _ _ h => h.1) ⟨hst, h2, fun x e => ⟨Nat.lt_of_lt_of_le hrV (h4 x e).1, (h4 x e).2⟩⟩ ?_
  clear hK K hC hV h2 h3 h4 hst hrV
  (try simp only [Act.put, List.getElem_toArray, List.getElem_cons_zero, List.getElem_cons_succ, List.setIfInBounds_toArray, List.set_cons_zero, List.set_cons_succ])
  refine wpDet_take ?vF9 (FSR.stays w b r n q l c ks p' c') (fun _ h => h.1) (i := 9) rfl (by kernel_rfl) (by kernel_rfl) (by kernel_rfl) (by kernel_rfl) (fun _ _ _ h => h) (Gives.value (by rfl) ?yF9) ?rF9
  case yF9 => (intro w' hSw; (try dsimp only at hSw); go_simp; try with_reducible rfl)
  (try simp only [Act.put, List.getElem_toArray, List.getElem_cons_zero, List.getElem_cons_succ, List.setIfInBounds_toArray, List.set_cons_zero, List.set_cons_succ])
  refine wpDet_ready (rs := [10]) (by kernel_rfl) (by simp) (AllDet.cons rfl (fun V hV K hK => ?_) AllDet.nil)
  rw [if_pos (by rfl)]
  refine wp_store_row 75 _ _ rfl r #[.int .i64 n, .slice p' l c'] rfl rfl _ _ hV.1.2.2.2.1 sizeFu rfl (oneFu _ _ _ _) ?_
  have hb9 := hV.1.2.2.2.2.2.2.trans (below_setRow2 V r #[.int .i64 n, .slice p' l c'] hV.1.2.2.2.2.1)
  have hr9 := hV.2.1.ch (S := fun k => k = r) (ch_setRow V r #[.int .i64 n, .slice p' l c']) (fun x e e2 => absurd (hV.2.2 x e).1 (by rw [e2]; exact Nat.lt_irrefl _))
  refine hK.out (FE w r n l ks p' c') _ _ (FE.stays w r n l ks p' c') (no_lean (by kernel_rfl)) ⟨row_setRow V r _ hV.1.2.2.2.1, hr9, hb9, fun x e => ⟨Nat.le_trans hV.1.2.2.2.2.1 (Nat.le_of_lt (hV.2.2 x e).1), Nat.lt_of_lt_of_le (hV.2.2 x e).2 (ch_setRow V r _).size⟩⟩ ?_
  clear hK K hV hb9 hr9
  (try simp only [Act.put, List.getElem_toArray, List.getElem_cons_zero, List.getElem_cons_succ, List.setIfInBounds_toArray, List.set_cons_zero, List.set_cons_succ])
  refine wpDet_done (by kernel_rfl) (fun w8 hV => ?_) _
  obtain ⟨hrow, hrd, hbl, hfr⟩ := hV
  go_wp2_with fail
  exact bodyPost_ret (results_cell_row (p := 2) rfl _ _ r _ _ _ _ rfl hrow Tryz.underlying75 rfl sizeFu) rfl ⟨p', c', rfl, hrd, hbl, hfr⟩

end Go.Proofs.YtpjhadaiodnnaaaGreat.M
end

section
namespace Go.Proofs.YtpjhadaiodnnaaaGreat.M
open Go.ChangeShapes Go.WideShapes Go.ChangeAt Go.RowKit
set_option linter.unusedSimpArgs false

theorem wp_value {P : Program} {op : Oper} {a : Act} {w : World} {K : Act → World → Prop} {Q : Exit → Act → World → Prop} (v : Value) (w' : World) (he : (execOp a.eval op).run P w = .ok (.value v) w') (h : K (a.put op.dst v) w') : op.wp P a w K Q := by
  unfold Oper.wp
  rw [he]
  exact h

def Bl (w W : World) : Prop := Below w.heap.size w W

theorem Bl.stays (w : World) : Stays (Bl w) := fun _ _ h hb => h.trans (hb.mono h.size)

theorem Bl.out' {w W : World} (h : Bl w W) : Below w.heap.size w W := h

/-- A reel's first record, ahead of its seal. -/
def headR (r : PR) : List Int := putAll [r.gen, (r.recs.length : Int)] ++ (putL r.base.length ++ r.base)

/-- A reel's bytes. -/
def sealR (r : PR) : List Int := sealL (headR r) ++ (r.recs.map sealL).flatten

/-- May a reel be? -/
structure PR.ok (r : PR) : Prop where
  gen : 0 ≤ r.gen ∧ r.gen ≤ 1099511627776
  base : r.base.length ≤ 8176 ∧ By r.base
  few : r.recs.length ≤ 1000000
  recs : ∀ i, i < r.recs.length → By (r.recs.getD i []) ∧ (r.recs.getD i []).length ≤ 8192

theorem rd2 (V : World) (x y : Int) : Rd .u64 (V.alloc (.cells #[.int .u64 x, .int .u64 y] 121)) (some ⟨V.heap.size, 0, none⟩) 2 2 [x, y] := by
  refine ⟨rfl, Nat.le_refl _, (fun e => by cases e), fun _ => ⟨_, 0, rfl, fun i hi => ?_⟩⟩
  have hA := At.new 121 V #[.int .u64 x, .int .u64 y]
  match i, hi with
  | 0, _ => exact hA.cell 0
  | 1, _ => exact hA.cell 1

theorem sealL_len_le {ys : List Int} (h : ys.length ≤ 8192) : (sealL ys).length ≤ 8206 := by
  rw [length_sealL]
  have := putL_len (m := ys.length) (by omega)
  omega

theorem flat_take {l : List (List Int)} {k : Nat} (h : k < l.length) : ((l.take (k + 1)).map sealL).flatten = ((l.take k).map sealL).flatten ++ sealL (l.getD k []) := by
  rw [List.take_add_one, List.getElem?_eq_getElem h, List.map_append, List.flatten_append, List.getD_eq_getElem?_getD, List.getElem?_eq_getElem h]
  simp

theorem flat_len {l : List (List Int)} (h : ∀ i, i < l.length → (l.getD i []).length ≤ 8192) : ∀ k, k ≤ l.length → (((l.take k).map sealL).flatten).length ≤ k * 8206
  | 0, _ => by simp
  | k + 1, hk => by
    have ih := flat_len h k (by omega)
    rw [flat_take (by omega), List.length_append]
    have := sealL_len_le (h k (by omega))
    omega

theorem headR_ok {r : PR} (h : r.ok) : By (headR r) ∧ (headR r).length ≤ 8192 := by
  have h0 : (putAll [r.gen, (r.recs.length : Int)]) = putL r.gen.toNat ++ putL r.recs.length := by simp [putAll]
  have hg := h.gen
  have hf := h.few
  have hb := h.base
  unfold headR
  rw [h0]
  refine ⟨By.app (By.app (putL_by _) (putL_by _)) (By.app (putL_by _) hb.2), ?_⟩
  rw [List.length_append, List.length_append, List.length_append]
  have h1 := putL_len_le 5 r.gen.toNat (by have : r.gen.toNat ≤ 1099511627776 := by omega
                                           exact Nat.lt_of_le_of_lt this (by decide))
  have h2 := putL_len_le 2 r.recs.length (Nat.lt_of_le_of_lt hf (by decide))
  have h3 := putL_len_le 1 r.base.length (Nat.lt_of_le_of_lt hb.1 (by decide))
  omega

set_option maxRecDepth 20000 in
set_option maxHeartbeats 4000000 in
theorem sealed_any (w : World) (g : Nat) (r : PR) (hr : r.ok) (pb : Option Addr) (nb cb : Nat) (pr : Option Addr) (cr : Nat) (vs : List Value) (hG : At 79 w g #[.int .i64 r.gen, .slice pb nb cb, .slice pr r.recs.length cr]) (hb : Rd .u8 w pb nb cb r.base) (hv : RdV w pr r.recs.length cr vs) (hs : Sls w vs r.recs) :
    Calls Tryz.prog 42 #[.pointer (some ⟨g, 0, none⟩)] w fun e w' => (∃ p n c, e = .returned (.slice p n c) ∧ Ow .u8 5 w' w.heap.size p n c (sealR r)) ∧ Below w.heap.size w w' := by
  obtain ⟨gen, base, recs⟩ := r
  have hgen := hr.gen
  have hbas := hr.base
  have hfew := hr.few
  have hrec := hr.recs
  obtain ⟨hhby, hhl⟩ := headR_ok hr
  dsimp only at hG hb hv hs hgen hbas hfew hrec
  obtain ⟨nr, hnr⟩ : ∃ z, z = recs.length := ⟨_, rfl⟩
  have HN : Hid (nr = recs.length) := hnr
  rw [← hnr] at hG hv hfew
  have hwd : Wd [gen, (nr : Int)] := fun x hx => by
    simp only [List.mem_cons, List.not_mem_nil, or_false] at hx
    rcases hx with rfl | rfl <;> omega
  have hS0w : ∀ W, Bl w W → W.cell? ⟨g, 0, none⟩ = some (.int .i64 gen) ∧ W.cell? ⟨g, 2, none⟩ = some (.slice pr nr cr) := fun W h => ⟨(hG.below (Bl.out' h)).cell 0, (hG.below (Bl.out' h)).cell 2⟩
  have hcg : IntKind.u64.wrap gen = gen := by rw [show IntKind.u64.wrap gen = gen % 18446744073709551616 from rfl]; omega
  have hcn : IntKind.u64.wrap (nr : Int) = (nr : Int) := by rw [show IntKind.u64.wrap (nr : Int) = (nr : Int) % 18446744073709551616 from rfl]; omega
  have hS0 : Bl w w.drew := (Below.refl _ _).drew
  obtain ⟨i0, hi0, hz0, hz1, hz2⟩ := info_parts infoU8
  have HPL : Hid ((putAll [gen, (nr : Int)]).length ≤ 20) := by
    show _ ≤ 20
    have h0 : (putAll [gen, (nr : Int)]) = putL gen.toNat ++ putL nr := by simp [putAll]
    rw [h0, List.length_append]
    have h1 := putL_len (m := gen.toNat) (by omega)
    have h2 := putL_len (m := nr) (by omega)
    omega
  clear hnr
  go_enter Tryz.func42, Tryz.ntmps42
  go_wp2_with fail
  refine wp_region_det [0, 1, 2, 3, 4, 5, 6, 7, 8, 9, 10, 13] (fun W => W.cell? ⟨g, 0, none⟩ = some (.int .i64 gen) ∧ W.cell? ⟨g, 2, none⟩ = some (.slice pr nr cr)) (Bl w) (by kernel_rfl) hS0 ?_
  refine wpDet_take ?vA0 (Bl.stays w) hS0w (i := 0) rfl (by kernel_rfl) (by kernel_rfl) (by kernel_rfl) (by kernel_rfl) (fun _ _ _ h => h) (Gives.value (by rfl) ?yA0) ?rA0
  case yA0 => (intro w' hSw; (try dsimp only at hSw); go_simp; try with_reducible rfl)
  (try simp only [Act.put, List.getElem_toArray, List.getElem_cons_zero, List.getElem_cons_succ, List.setIfInBounds_toArray, List.set_cons_zero, List.set_cons_succ])
  refine wpDet_take ?vA1 (Bl.stays w) hS0w (i := 1) rfl (by kernel_rfl) (by kernel_rfl) (by kernel_rfl) (by kernel_rfl) (fun _ _ _ h => h) (Gives.value (by rfl) ?yA1) ?rA1
  case yA1 => (intro w' hSw; (try dsimp only at hSw); go_simp; try with_reducible rfl)
  (try simp only [Act.put, List.getElem_toArray, List.getElem_cons_zero, List.getElem_cons_succ, List.setIfInBounds_toArray, List.set_cons_zero, List.set_cons_succ])
  refine wpDet_take ?vA2 (Bl.stays w) hS0w (i := 2) rfl (by kernel_rfl) (by kernel_rfl) (by kernel_rfl) (by kernel_rfl) (fun _ _ _ h => h) (Gives.value (by rfl) ?yA2) ?rA2
  case yA2 => (intro w' hSw; (try dsimp only at hSw); go_simp; try with_reducible rfl)
  (try simp only [Act.put, List.getElem_toArray, List.getElem_cons_zero, List.getElem_cons_succ, List.setIfInBounds_toArray, List.set_cons_zero, List.set_cons_succ])
  refine wpDet_take ?vA3 (Bl.stays w) hS0w (i := 3) rfl (by kernel_rfl) (by kernel_rfl) (by kernel_rfl) (by kernel_rfl) (fun _ _ _ h => h) (Gives.value (by rfl) ?yA3) ?rA3
  case yA3 => (intro w' hSw; have hz0 := hSw.1; (try dsimp only at hSw); go_simp; try with_reducible rfl)
  (try simp only [Act.put, List.getElem_toArray, List.getElem_cons_zero, List.getElem_cons_succ, List.setIfInBounds_toArray, List.set_cons_zero, List.set_cons_succ])
  refine wpDet_take (.int .u64 gen) (Bl.stays w) hS0w (i := 4) rfl (by kernel_rfl) (by kernel_rfl) (by kernel_rfl) (by kernel_rfl) (fun _ _ _ h => h) (Gives.value (by rfl) ?yA4) ?rA4
  case yA4 => (intro w' hSw; (try dsimp only at hSw); go_simp; try with_reducible rfl)
  (try simp only [Act.put, List.getElem_toArray, List.getElem_cons_zero, List.getElem_cons_succ, List.setIfInBounds_toArray, List.set_cons_zero, List.set_cons_succ])
  refine wpDet_take ?vA5 (Bl.stays w) hS0w (i := 5) rfl (by kernel_rfl) (by kernel_rfl) (by kernel_rfl) (by kernel_rfl) (fun _ _ _ h => h) (Gives.value (by rfl) ?yA5) ?rA5
  case yA5 => (intro w' hSw; (try dsimp only at hSw); go_simp; try with_reducible rfl)
  (try simp only [Act.put, List.getElem_toArray, List.getElem_cons_zero, List.getElem_cons_succ, List.setIfInBounds_toArray, List.set_cons_zero, List.set_cons_succ])
  refine wpDet_take ?vA6 (Bl.stays w) hS0w (i := 6) rfl (by kernel_rfl) (by kernel_rfl) (by kernel_rfl) (by kernel_rfl) (fun _ _ _ h => h) (Gives.value (by rfl) ?yA6) ?rA6
  case yA6 => (intro w' hSw; (try dsimp only at hSw); go_simp; try with_reducible rfl)
  (try simp only [Act.put, List.getElem_toArray, List.getElem_cons_zero, List.getElem_cons_succ, List.setIfInBounds_toArray, List.set_cons_zero, List.set_cons_succ])
  refine wpDet_take ?vA7 (Bl.stays w) hS0w (i := 7) rfl (by kernel_rfl) (by kernel_rfl) (by kernel_rfl) (by kernel_rfl) (fun _ _ _ h => h) (Gives.value (by rfl) ?yA7) ?rA7
  case yA7 => (intro w' hSw; (try dsimp only at hSw); go_simp; try with_reducible rfl)
  (try simp only [Act.put, List.getElem_toArray, List.getElem_cons_zero, List.getElem_cons_succ, List.setIfInBounds_toArray, List.set_cons_zero, List.set_cons_succ])
  refine wpDet_take ?vA8 (Bl.stays w) hS0w (i := 8) rfl (by kernel_rfl) (by kernel_rfl) (by kernel_rfl) (by kernel_rfl) (fun _ _ _ h => h) (Gives.value (by rfl) ?yA8) ?rA8
  case yA8 => (intro w' hSw; have hz0 := hSw.2; (try dsimp only at hSw); go_simp; try with_reducible rfl)
  (try simp only [Act.put, List.getElem_toArray, List.getElem_cons_zero, List.getElem_cons_succ, List.setIfInBounds_toArray, List.set_cons_zero, List.set_cons_succ])
  refine wpDet_take ?vA9 (Bl.stays w) hS0w (i := 9) rfl (by kernel_rfl) (by kernel_rfl) (by kernel_rfl) (by kernel_rfl) (fun _ _ _ h => h) (Gives.value (by rfl) ?yA9) ?rA9
  case yA9 => (intro w' hSw; (try dsimp only at hSw); go_simp; try with_reducible rfl)
  (try simp only [Act.put, List.getElem_toArray, List.getElem_cons_zero, List.getElem_cons_succ, List.setIfInBounds_toArray, List.set_cons_zero, List.set_cons_succ])
  refine wpDet_take (.int .u64 nr) (Bl.stays w) hS0w (i := 10) rfl (by kernel_rfl) (by kernel_rfl) (by kernel_rfl) (by kernel_rfl) (fun _ _ _ h => h) (Gives.value (by rfl) ?yA10) ?rA10
  case yA10 => (intro w' hSw; (try dsimp only at hSw); go_simp; try with_reducible rfl)
  (try simp only [Act.put, List.getElem_toArray, List.getElem_cons_zero, List.getElem_cons_succ, List.setIfInBounds_toArray, List.set_cons_zero, List.set_cons_succ])
  refine wpDet_ready (rs := [11]) (by kernel_rfl) (by simp) (AllDet.cons rfl (fun V hV K hK => ?_) AllDet.nil)
  rw [if_pos (by rfl)]
  refine wp_value (.slice (some ⟨V.heap.size, 0, none⟩) 2 2) (V.alloc (.cells #[.int .u64 gen, .int .u64 nr] 121)) (by first | (go_simp; done) | (go_simp; rfl)) ?_
  have hba := below_alloc V (.cells #[.int .u64 gen, .int .u64 nr] 121)
  have hO := rd2 V gen nr
  have hb5 := Bl.stays w V _ hV hba
  obtain ⟨gs, hgs⟩ : ∃ z, z = V.heap.size := ⟨_, rfl⟩
  rw [← hgs] at hO ⊢
  refine hK.out (fun W => Bl w W ∧ Rd .u64 W (some ⟨gs, 0, none⟩) 2 2 [gen, nr]) _ _ (fun W W' h hb => ⟨Bl.stays w W W' h.1 hb, h.2.below hb⟩) (fun _ W h => hS0w W h.1) ⟨hb5, hO⟩ ?_
  clear hK K hV hba hO hb5 hgs
  (try simp only [Act.put, List.getElem_toArray, List.getElem_cons_zero, List.getElem_cons_succ, List.setIfInBounds_toArray, List.set_cons_zero, List.set_cons_succ])
  refine wpDet_ready (rs := [12]) (by kernel_rfl) (by simp) (AllDet.cons rfl (fun V hV K hK => ?_) AllDet.nil)
  rw [if_pos (by rfl)]
  have hC := put_any none 0 0 [] (some ⟨gs, 0, none⟩) 2 2 [gen, nr] V (Rd.empty _ _ _ _ (fun _ => rfl)) hV.2 hwd (by omega) (by omega)
  refine wp_enterX 75 #[.slice none 0 0, .slice (some ⟨gs, 0, none⟩) 2 2] (by first | (go_simp; done) | (go_simp; rfl)) (fun v V' => ∃ p' c', v = .slice p' (putAll [gen, nr]).length c' ∧ Rd .u8 V' p' (putAll [gen, nr]).length c' (putAll [gen, nr]) ∧ Below V.heap.size V V') (hC.mono fun e V' ⟨p', c', h1, h2, h3⟩ => ⟨_, h1, p', c', by rw [Nat.zero_add], by have := h2.rd; rw [Nat.zero_add, List.nil_append] at this; exact this, h3⟩) ?_
  rintro v V' ⟨p1, c1, rfl, hr1, hb1⟩
  refine hK.out (fun W => Bl w W ∧ Rd .u8 W p1 (putAll [gen, nr]).length c1 (putAll [gen, nr])) _ _ (fun W W' h hb => ⟨Bl.stays w W W' h.1 hb, h.2.below hb⟩) (fun _ W h => hS0w W h.1) ⟨Bl.stays w V V' hV.1 hb1, hr1⟩ ?_
  clear hK K hC hV hr1 hb1
  (try simp only [Act.put, List.getElem_toArray, List.getElem_cons_zero, List.getElem_cons_succ, List.setIfInBounds_toArray, List.set_cons_zero, List.set_cons_succ])
  refine wpDet_take ?vA13 (fun W W' h hb => ⟨Bl.stays w W W' h.1 hb, h.2.below hb⟩) (fun W h => hS0w W h.1) (i := 13) rfl (by kernel_rfl) (by kernel_rfl) (by kernel_rfl) (by kernel_rfl) (fun _ _ _ h => h) (Gives.value (by rfl) ?yA13) ?rA13
  case yA13 => (intro w' hSw; (try dsimp only at hSw); go_simp; try with_reducible rfl)
  (try simp only [Act.put, List.getElem_toArray, List.getElem_cons_zero, List.getElem_cons_succ, List.setIfInBounds_toArray, List.set_cons_zero, List.set_cons_succ])
  refine wpDet_done (by kernel_rfl) (fun W1 hW1 => ?_) _
  obtain ⟨hbW1', hr1⟩ := hW1
  have hbW1 := Bl.out' hbW1'
  have hG1 := hG.below hbW1
  have hb1 := hb.below hbW1
  obtain ⟨d0, d1, d2⟩ := hG1.three
  have gB := putBytes_any p1 _ c1 (putAll [gen, (nr : Int)]) pb nb cb base W1 hr1 hb1 (by have := HPL.out; omega) (by have := hb.len; omega)
  clear hbW1'
  go_wp2_with fail
  refine gB.mono ?_
  rintro e W2 ⟨p2, c2, rfl, hO2, hb2⟩
  have hlb := hb.len
  have hhead : Hid (headR ⟨gen, base, recs⟩ = putAll [gen, (nr : Int)] ++ (putL nb ++ base)) := by
    show _ = _
    unfold headR
    dsimp only
    rw [← HN.out, hlb]
  have hl2 := hO2.len
  rw [← hhead.out] at hO2 hl2
  have gS := seal_any p2 _ c2 (headR ⟨gen, base, recs⟩) W2 hO2.rd hhby (by rw [← hl2]; exact hhl)
  have hbW2 := hbW1.trans (hb2.mono hbW1.size)
  clear gB hb2 hG1 hb1 d0 d1 d2
  go_wp2_with fail
  refine gS.mono ?_
  rintro e W3 ⟨p3, n3, c3, rfl, hO3, hb3⟩
  have hbW3 := hbW2.trans (hb3.mono hbW2.size)
  have hO3' := hO3.lower hbW2.size
  have hG3 := hG.below hbW3
  obtain ⟨d0, d1, d2⟩ := hG3.three
  clear gS hb3 hO2 hO3 hr1
  obtain ⟨hd, Hhd⟩ : ∃ z, Hid (headR ⟨gen, base, recs⟩ = z) := ⟨_, rfl⟩
  rw [Hhd.out] at hO3' hhby hhl
  go_wp2_with fail
  go_loopw [4, 38] (fun v ix wr => ∃ (k : Nat) (pq : Option Addr) (nq cq : Nat), k ≤ nr ∧ ix = .int .i64 k ∧ v = .slice pq nq cq ∧ Ow .u8 5 wr w.heap.size pq nq cq (sealL hd ++ ((recs.take k).map sealL).flatten) ∧ Below w.heap.size w wr) (fun _ ix _ => nr - (intOf ix).toNat)
  case atStart => exact ⟨0, p3, n3, c3, Nat.zero_le _, rfl, rfl, by rw [List.take_zero, List.map_nil, List.flatten_nil, List.append_nil]; exact hO3', hbW3⟩
  case round =>
    obtain ⟨k, pq, nq, cq, hk, rfl, rfl, hO, hbw⟩ := hrel
    have hwsz := hbw.size
    by_cases hkn : k < nr
    · have hki : (k : Int) < (nr : Int) := by omega
      have hvw := hv.below hbw
      obtain ⟨bv, ov, hpe, hcv⟩ := hvw.cells (by omega)
      subst hpe
      have hck := hcv k hkn
      obtain ⟨q0, m0, e0, hq0, hr0⟩ := (hs.below hbw).2 k (by rw [hv.len]; exact hkn)
      rw [hq0] at hck
      obtain ⟨hby0, hl0⟩ := hrec k (by rw [← HN.out]; exact hkn)
      have hfl := flat_take (l := recs) (k := k) (by rw [← HN.out]; exact hkn)
      have hfn := flat_len (l := recs) (fun i hi => (hrec i hi).2) k (by rw [← HN.out]; exact hk)
      have hhl2 := sealL_len_le hhl
      have hln := hO.len
      rw [List.length_append] at hln
      have hm0 : m0 ≤ 8192 := by rw [← hr0.len]; exact hl0
      have hsl := sealL_len_le hl0
      generalize recs.getD k [] = y at *
      have gS := seal_any q0 m0 e0 y wr hr0 hby0 hm0
      clear hcv
      go_wp2_with fail
      refine gS.mono ?_
      rintro e W4 ⟨p4, n4, c4, rfl, hO4, hb4⟩
      have hOb := hO.below hb4
      have hn4 := hO4.len
      have hbw4 := hbw.trans (hb4.mono hwsz)
      have hB4 := hbw4.size
      have HFL : Hid (((recs.take (k + 1)).map sealL).flatten = ((recs.take k).map sealL).flatten ++ sealL y) := hfl
      clear gS hfl hO hb4 hck hvw
      go_wp2_with (at_builtin; refine wpList_app _ rfl (.tmp 47) (.tmp 48) 40 rfl .u8 5 i0 (.int .u8 0) 1 Tryz.underlying40 hi0 hz0 hz1 hz2 rfl w.heap.size pq nq cq _ rfl hOb p4 n4 c4 (sealL y) rfl hO4.rd ?d1 ?d2 hB4 ?_; rotate_left 2; intro p5 c5 W5 hO5 hb5)
      case d1 => omega
      case d2 => unfold maxLen; omega
      go_roundw
      case rel => exact ⟨k + 1, p5, nq + n4, c5, by omega, by go_num, rfl, by rw [HFL.out, ← List.append_assoc]; exact hO5, hbw4.trans hb5⟩
      case measure => simp [intOf]; omega
    · have hki : ¬ (k : Int) < (nr : Int) := by omega
      have et : recs.take k = recs := List.take_of_length_le (by rw [← HN.out]; omega)
      rw [et] at hO
      go_wp2_with fail
      go_ret
      refine ⟨⟨pq, nq, cq, rfl, ?_⟩, hbw⟩
      unfold sealR
      rw [Hhd.out]
      exact hO

end Go.Proofs.YtpjhadaiodnnaaaGreat.M
end

section
namespace Go.Proofs.YtpjhadaiodnnaaaGreat.M
open Go.ChangeShapes Go.WideShapes Go.ChangeAt Go.RowKit
set_option linter.unusedSimpArgs false

set_option maxRecDepth 20000 in
theorem bcloneO (p : Option Addr) (n c : Nat) (xs : List Int) (w : World) (hr : Rd .u8 w p n c xs) (hn : n ≤ 1099511627776) :
    Calls Tryz.prog 53 #[.slice p n c] w fun e w' => ∃ p' c', e = .returned (.slice p' n c') ∧ Ow .u8 5 w' w.heap.size p' n c' xs ∧ Below w.heap.size w w' := by
  have q22 : ∀ (w : World) (a : Option Addr) (n c n' c' : Nat), (binOp .eql 40 (.slice a n c) (.slice none n' c')).run Tryz.prog w = .ok (.bool a.isNone) w := fun w a n c n' c' => Lib.run_eql_slice_nil w _ _ a n c n' c' Tryz.underlying40
  cases p with
  | none =>
    have hc := hr.nil rfl
    have hn0 : n = 0 := by have := hr.cap; omega
    subst hc hn0
    obtain rfl : xs = [] := List.length_eq_zero_iff.1 hr.len
    go_enter Tryz.func53, Tryz.ntmps53
    go_wp2
    go_ret
    exact ⟨none, 0, rfl, Ow.empty _ _ _ _ _, Below.refl _ _⟩
  | some a =>
    obtain ⟨i0, hi0, hz0, hz1, hz2⟩ := info_parts infoU8
    go_enter Tryz.func53, Tryz.ntmps53
    go_wp2_with (at_builtin; refine wpList_app _ rfl _ _ 40 rfl .u8 5 i0 (.int .u8 0) 1 Tryz.underlying40 hi0 hz0 hz1 hz2 rfl w.heap.size _ _ _ [] rfl (Ow.empty _ _ _ _ _) _ _ _ xs rfl (hr.below (below_alloc _ _)) ?d1 ?d2 ?d3 ?_)
    case d1 => omega
    case d2 => unfold maxLen; omega
    case d3 => simp
    intro p2 c2 w2 ho2 hb2
    have hb3 := ((below_alloc w (.cells #[] 5)).trans hb2)
    clear hb2
    go_wp2
    go_ret
    exact ⟨p2, c2, by simp, by simpa using ho2, hb3⟩

/-- Bytes of the call's own lie in no block of another type. -/
theorem Ow.exT {t : TypeId} {w w' : World} {B g n c : Nat} {p : Option Addr} {xs : List Int} {cs : Array Value} (h : Ow .u8 5 w B p n c xs) (hg : At t w g cs) (he : Ex g w w') (ht : t ≠ 5) : Ow .u8 5 w' B p n c xs := by
  refine ⟨h.len, ?_⟩
  rcases h.own with h1 | h1
  · exact Or.inl h1
  · refine Or.inr (ownsRow_ex h1 he fun e => ?_)
    rcases h1.2 with ⟨h2, _⟩ | ⟨g', cap, cur, hv, _, hh, _⟩
    · rw [h2] at e; cases e
    · rw [hv] at e
      cases e
      rw [show w.heap[g']? = _ from hg] at hh
      injection hh with hh
      injection hh with _ h3
      exact ht h3

theorem Slo.exT {t : TypeId} {w w' : World} {B g : Nat} {vs : List Value} {xss : List (List Int)} {cs : Array Value} (h : Slo 5 w B vs xss) (hg : At t w g cs) (he : Ex g w w') (ht : t ≠ 5) : Slo 5 w' B vs xss :=
  ⟨h.1, fun i hi => by obtain ⟨q, m, d, e, r⟩ := h.2 i hi; exact ⟨q, m, d, e, r.exT hg he ht⟩⟩

theorem OwV.exT {t e : TypeId} {w w' : World} {B g n c : Nat} {p : Option Addr} {vs : List Value} {cs : Array Value} (h : OwV e w B p n c vs) (hg : At t w g cs) (he : Ex g w w') (ht : t ≠ e) : OwV e w' B p n c vs := by
  refine ⟨h.len, ?_⟩
  rcases h.own with h1 | h1
  · exact Or.inl h1
  · refine Or.inr (ownsRow_ex h1 he fun e' => ?_)
    rcases h1.2 with ⟨h2, _⟩ | ⟨g', cap, cur, hv, _, hh, _⟩
    · rw [h2] at e'; cases e'
    · rw [hv] at e'
      cases e'
      rw [show w.heap[g']? = _ from hg] at hh
      injection hh with hh
      injection hh with _ h3
      exact ht h3

/-- A reel's value, all of it memory of the call's own. -/
def ReW (w : World) (B : Nat) (v : Value) (r : PR) : Prop := ∃ pb nb cb pr cr vs, v = .agg #[.int .i64 r.gen, .slice pb nb cb, .slice pr r.recs.length cr] ∧ Ow .u8 5 w B pb nb cb r.base ∧ OwV 40 w B pr r.recs.length cr vs ∧ Slo 5 w B vs r.recs

theorem info1 : (Tryz.prog.info? 40).map (fun i => (i.zero, i.size, i.bytes)) = some (some (.slice none 0 0), 1, 24) := by kernel_rfl

theorem wp_app {P : Program} {op : Oper} {a : Act} {w : World} {K : Act → World → Prop} {Q : Exit → Act → World → Prop} (s x : Operand) (t : TypeId) (hop : op.op = .call { callee := .builtin .append, args := #[s, x], argTypes := #[t, t] }) (u v : Value) (hs : a.eval s = u) (hx : a.eval x = v) (y : Value) (w' : World)
    (hrun : (Builtin.append_ #[t, t] op.type #[u, v]).run P w = .ok y w') (h : K (a.put op.dst y) w') : op.wp P a w K Q := by
  unfold Oper.wp
  simp [execOp, hop, resolve, invoke, builtin, hs, hx, hrun, Result.andThen]
  exact h

theorem sizeSlV : (Tryz.prog.info? 41).map (·.size) = some 1 := by kernel_rfl

theorem results_reel1 {fn : Func} {p : Tmp} (h : fn.results = #[.cell p 79]) (tmps : Array Value) (w : World) (g : Nat) (x y z : Value) (hp : tmps.getD p undef = .pointer (some ⟨g, 0, none⟩)) (hg : At 79 w g #[x, y, z]) :
    (results fn tmps).run Tryz.prog w = .ok (.agg #[x, y, z]) w := by
  have hp' : tmps[p]?.getD undef = .pointer (some ⟨g, 0, none⟩) := by simpa using hp
  have hl := run_loadVar_mid (P := Tryz.prog) w g 0 79 [x, y, z] _ (fun j v hj => by
    rw [Nat.zero_add]
    match j, hj with
    | 0, hj => cases hj; exact hg.cell 0
    | 1, hj => cases hj; exact hg.cell 1
    | 2, hj => cases hj; exact hg.cell 2) Tryz.underlying79 rfl sizeR
  simp [results, h, hp', asAddr, hl]

theorem take_snocV {l : List (List Int)} {k : Nat} (h : k < l.length) : l.take (k + 1) = l.take k ++ [l.getD k []] := by
  rw [List.take_add_one, List.getElem?_eq_getElem h, List.getD_eq_getElem?_getD, List.getElem?_eq_getElem h]
  rfl

theorem At.put2 {t : TypeId} {w : World} {g : Nat} {a b c : Value} (h : At t w g #[a, b, c]) (z : Value) : At t (w.setCell ⟨g, 2, none⟩ z) g #[a, b, z] := heap_setCell_same _ g 2 _ _ z h

/-- While the records are cloned. -/
structure FlI (w0 : World) (gn gq : Nat) (gen : Int) (p6 : Option Addr) (nb c6 : Nat) (base : List Int) (Bv : Nat) (pq : Option Addr) (kq cq : Nat) (p8 : Option Addr) (k8 c8 : Nat) (vq : List Value) (rs : List (List Int)) (W : World) : Prop where
  an : At 79 W gn #[.int .i64 (gen + 1), .slice p6 nb c6, .slice pq kq cq]
  aq : At 79 W gq #[.int .i64 0, .slice none 0 0, .slice none 0 0]
  ob : Ow .u8 5 W w0.heap.size p6 nb c6 base
  ov : OwV 40 W Bv p8 k8 c8 vq
  so : Slo 5 W Bv vq rs
  bl : Below w0.heap.size w0 W
  sz : Bv ≤ W.heap.size

theorem FlI.stays (w0 : World) (gn gq : Nat) (gen : Int) (p6 : Option Addr) (nb c6 : Nat) (base : List Int) (Bv : Nat) (pq : Option Addr) (kq cq : Nat) (p8 : Option Addr) (k8 c8 : Nat) (vq : List Value) (rs : List (List Int)) : Stays (FlI w0 gn gq gen p6 nb c6 base Bv pq kq cq p8 k8 c8 vq rs) := fun _ _ h hb =>
  ⟨h.an.below hb, h.aq.below hb, h.ob.below hb, h.ov.below hb, h.so.below hb, h.bl.trans (hb.mono h.bl.size), Nat.le_trans h.sz hb.size⟩

theorem FlI.put {w0 : World} {gn gq : Nat} {gen : Int} {p6 : Option Addr} {nb c6 : Nat} {base : List Int} {Bv : Nat} {pq : Option Addr} {kq cq : Nat} {p8 : Option Addr} {k8 c8 : Nat} {vq : List Value} {rs : List (List Int)} {V : World} (h : FlI w0 gn gq gen p6 nb c6 base Bv pq kq cq p8 k8 c8 vq rs V) (hE : Ex gn V (V.setCell ⟨gn, 2, none⟩ (.slice p8 k8 c8))) (hne : gn ≠ gq) (_hB : gn < Bv) (hw : w0.heap.size ≤ gn) :
    FlI w0 gn gq gen p6 nb c6 base Bv p8 k8 c8 p8 k8 c8 vq rs (V.setCell ⟨gn, 2, none⟩ (.slice p8 k8 c8)) :=
  ⟨h.an.put2 _, h.aq.ex hE (Ne.symm hne), h.ob.exT h.an hE (by decide), h.ov.exT h.an hE (by decide), h.so.exT h.an hE (by decide), h.bl.trans (hE.below hw h.an.lt), Nat.le_trans h.sz hE.size⟩

theorem OwV.lowerB {e : TypeId} {w : World} {B B' n c : Nat} {p : Option Addr} {vs : List Value} (h : OwV e w B p n c vs) (hB : B' ≤ B) : OwV e w B' p n c vs := ⟨h.len, h.own.imp id fun h => ownsRow_lower h hB⟩

set_option maxRecDepth 20000 in
set_option maxHeartbeats 8000000 in
theorem follow_any (w : World) (gt : Nat) (gen : Int) (hc3 : w.cell? ⟨gt, 3, none⟩ = some (.int .i64 gen)) (hgen : 0 ≤ gen ∧ gen < 1099511627776) (pb : Option Addr) (nb cb : Nat) (base : List Int) (hb0 : Rd .u8 w pb nb cb base) (hnb : nb ≤ 8192) (pr : Option Addr) (nr cr : Nat) (vs : List Value) (recs : List (List Int)) (hv0 : RdV w pr nr cr vs) (hs0 : Sls w vs recs) (hnr : nr = recs.length) (hfew : nr ≤ 1000000) (hrec : ∀ i, i < recs.length → (recs.getD i []).length ≤ 8192) :
    Calls Tryz.prog 39 #[.pointer (some ⟨gt, 3, none⟩), .slice pb nb cb, .slice pr nr cr] w fun e w' => (∃ v, e = .returned v ∧ ReW w' w.heap.size v ⟨gen + 1, base, recs⟩) ∧ Below w.heap.size w w' := by
  have HN : Hid (nr = recs.length) := hnr
  clear hnr
  have hbaw := below_alloc w (.cells #[.int .i64 0, .slice none 0 0, .slice none 0 0] 79)
  have hGq := At.new 79 w #[.int .i64 0, .slice none 0 0, .slice none 0 0]
  have hbr := hb0.below hbaw
  have hv := hv0.below hbaw
  have hs := hs0.below hbaw
  have hc3w := cell_below hbaw hc3
  obtain ⟨i1, hi1, hy0, hy1, hy2⟩ := info_parts info1
  have hsz0 : (w.alloc (.cells #[.int .i64 0, .slice none 0 0, .slice none 0 0] 79)).heap.size = w.heap.size + 1 := by simp
  obtain ⟨gq, hgq⟩ : ∃ z, z = w.heap.size := ⟨_, rfl⟩
  clear hb0 hv0 hs0
  go_enter Tryz.func39, Tryz.ntmps39
  go_wp2_with fail
  generalize (w.alloc (.cells #[.int .i64 0, .slice none 0 0, .slice none 0 0] 79)) = w0 at *
  rw [← hgq] at hGq hsz0 ⊢
  have HGQ : Hid (w0.heap.size = gq + 1) := hsz0
  have HGQ2 : Hid (gq = w.heap.size) := hgq
  clear hsz0 hgq
  have hS0w : ∀ W, Bl w0 W → W.cell? ⟨gt, 3, none⟩ = some (.int .i64 gen) := fun W h => cell_below (Bl.out' h) hc3w
  have hS0 : Bl w0 w0.drew := (Below.refl _ _).drew
  have hwrap : IntKind.i64.wrap (gen + 1) = gen + 1 := by rw [IntKind.wrap_i64]; omega
  refine wp_region_det [0, 1, 2, 3, 4, 5, 7] (fun W => W.cell? ⟨gt, 3, none⟩ = some (.int .i64 gen)) (Bl w0) (by kernel_rfl) hS0 ?_
  refine wpDet_take ?vA0 (Bl.stays w0) hS0w (i := 0) rfl (by kernel_rfl) (by kernel_rfl) (by kernel_rfl) (by kernel_rfl) (fun _ _ _ h => h) (Gives.value (by rfl) ?yA0) ?rA0
  case yA0 => (intro w' hSw; go_simp; try with_reducible rfl)
  (try simp only [Act.put, List.getElem_toArray, List.getElem_cons_zero, List.getElem_cons_succ, List.setIfInBounds_toArray, List.set_cons_zero, List.set_cons_succ])
  refine wpDet_take ?vA1 (Bl.stays w0) hS0w (i := 1) rfl (by kernel_rfl) (by kernel_rfl) (by kernel_rfl) (by kernel_rfl) (fun _ _ _ h => h) (Gives.value (by rfl) ?yA1) ?rA1
  case yA1 => (intro w' hSw; go_simp; try with_reducible rfl)
  (try simp only [Act.put, List.getElem_toArray, List.getElem_cons_zero, List.getElem_cons_succ, List.setIfInBounds_toArray, List.set_cons_zero, List.set_cons_succ])
  refine wpDet_take ?vA2 (Bl.stays w0) hS0w (i := 2) rfl (by kernel_rfl) (by kernel_rfl) (by kernel_rfl) (by kernel_rfl) (fun _ _ _ h => h) (Gives.value (by rfl) ?yA2) ?rA2
  case yA2 => (intro w' hSw; go_simp; try with_reducible rfl)
  (try simp only [Act.put, List.getElem_toArray, List.getElem_cons_zero, List.getElem_cons_succ, List.setIfInBounds_toArray, List.set_cons_zero, List.set_cons_succ])
  refine wpDet_take ?vA3 (Bl.stays w0) hS0w (i := 3) rfl (by kernel_rfl) (by kernel_rfl) (by kernel_rfl) (by kernel_rfl) (fun _ _ _ h => h) (Gives.value (by rfl) ?yA3) ?rA3
  case yA3 => (intro w' hSw; have hz0 := hSw; go_simp; try with_reducible rfl)
  (try simp only [Act.put, List.getElem_toArray, List.getElem_cons_zero, List.getElem_cons_succ, List.setIfInBounds_toArray, List.set_cons_zero, List.set_cons_succ])
  refine wpDet_take (.int .i64 (gen + 1)) (Bl.stays w0) hS0w (i := 4) rfl (by kernel_rfl) (by kernel_rfl) (by kernel_rfl) (by kernel_rfl) (fun _ _ _ h => h) (Gives.value (by rfl) ?yA4) ?rA4
  case yA4 => (intro w' hSw; go_simp; (try exact hwrap))
  (try simp only [Act.put, List.getElem_toArray, List.getElem_cons_zero, List.getElem_cons_succ, List.setIfInBounds_toArray, List.set_cons_zero, List.set_cons_succ])
  refine wpDet_take ?vA5 (Bl.stays w0) hS0w (i := 5) rfl (by kernel_rfl) (by kernel_rfl) (by kernel_rfl) (by kernel_rfl) (fun _ _ _ h => h) (Gives.value (by rfl) ?yA5) ?rA5
  case yA5 => (intro w' hSw; go_simp; try with_reducible rfl)
  (try simp only [Act.put, List.getElem_toArray, List.getElem_cons_zero, List.getElem_cons_succ, List.setIfInBounds_toArray, List.set_cons_zero, List.set_cons_succ])
  refine wpDet_ready (rs := [6, 8]) (by kernel_rfl) (by simp) (AllDet.cons rfl (fun V hV K hK => ?_) (AllDet.cons rfl (fun V hV K hK => ?_) AllDet.nil))
  · rw [if_pos (by rfl)]
    have hC := bcloneO pb nb cb base V (hbr.below (Bl.out' hV)) (by omega)
    refine wp_enterX 53 #[.slice pb nb cb] (by first | (go_simp; done) | (go_simp; rfl)) (fun v V' => ∃ p' c', v = .slice p' nb c' ∧ Ow .u8 5 V' V.heap.size p' nb c' base ∧ Below V.heap.size V V') (hC.mono fun e V' ⟨p', c', h1, h2, h3⟩ => ⟨_, h1, p', c', rfl, h2, h3⟩) ?_
    rintro v V' ⟨p6, c6, rfl, ho6, hb6⟩
    refine hK.out (fun W => Bl w0 W ∧ Ow .u8 5 W w0.heap.size p6 nb c6 base ∧ True) _ _ (fun W W' h hb => ⟨Bl.stays w0 W W' h.1 hb, h.2.1.below hb, h.2.2⟩) (fun _ W h => hS0w W h.1) ⟨Bl.stays w0 V V' hV hb6, ho6.lower (Bl.out' hV).size, trivial⟩ ?_
    clear hK K hC hV ho6 hb6
    (try simp only [Act.put, List.getElem_toArray, List.getElem_cons_zero, List.getElem_cons_succ, List.setIfInBounds_toArray, List.set_cons_zero, List.set_cons_succ])
    refine wpDet_take ?vT7 (fun W W' h hb => ⟨Bl.stays w0 W W' h.1 hb, h.2.1.below hb, h.2.2⟩) (fun W h => hS0w W h.1) (i := 7) rfl (by kernel_rfl) (by kernel_rfl) (by kernel_rfl) (by kernel_rfl) (fun _ _ _ h => h) (Gives.value (by rfl) ?yT7) ?rT7
    case yT7 => (intro w' hSw; go_simp; try with_reducible rfl)
    (try simp only [Act.put, List.getElem_toArray, List.getElem_cons_zero, List.getElem_cons_succ, List.setIfInBounds_toArray, List.set_cons_zero, List.set_cons_succ])
    refine wpDet_ready (rs := [8]) (by kernel_rfl) (by simp) (AllDet.cons rfl (fun V hV K hK => ?_) AllDet.nil)
    rw [if_pos (by rfl)]
    refine wp_value (.pointer (some ⟨V.heap.size, 0, none⟩)) (V.alloc (.cells #[.int .i64 0, .slice none 0 0, .slice none 0 0] 79)) (by first | (go_simp; done) | (go_simp; rfl)) ?_
    have hba := below_alloc V (.cells #[.int .i64 0, .slice none 0 0, .slice none 0 0] 79)
    have hA8 := At.new 79 V #[.int .i64 0, .slice none 0 0, .slice none 0 0]
    have hb5 := Bl.stays w0 V _ hV.1 hba
    have hgn : w0.heap.size ≤ V.heap.size := (Bl.out' hV.1).size
    obtain ⟨gn, hgne⟩ : ∃ z, z = V.heap.size := ⟨_, rfl⟩
    rw [← hgne] at hA8 hgn ⊢
    refine hK.out (fun W => Bl w0 W ∧ Ow .u8 5 W w0.heap.size p6 nb c6 base ∧ At 79 W gn #[.int .i64 0, .slice none 0 0, .slice none 0 0]) _ _ (fun W W' h hb => ⟨Bl.stays w0 W W' h.1 hb, h.2.1.below hb, h.2.2.below hb⟩) (fun _ W h => hS0w W h.1) ⟨hb5, hV.2.1.below hba, hA8⟩ ?_
    clear hK K hV hba hA8 hb5 hgne
    (try simp only [Act.put, List.getElem_toArray, List.getElem_cons_zero, List.getElem_cons_succ, List.setIfInBounds_toArray, List.set_cons_zero, List.set_cons_succ])
    refine wpDet_ready (rs := [9]) (by kernel_rfl) (by simp) (AllDet.cons rfl (fun V hV K hK => ?_) AllDet.nil)
    rw [if_pos (by rfl)]
    have hth : V.there gn 0 3 := fun j hj => by
      rw [Nat.zero_add]
      refine ⟨?_, hV.2.2.free j⟩
      match j, hj with
      | 0, _ => rw [hV.2.2.cell 0]; rfl
      | 1, _ => rw [hV.2.2.cell 1]; rfl
      | 2, _ => rw [hV.2.2.cell 2]; rfl
    refine wp_store_mid 79 _ _ rfl gn 0 #[.int .i64 (gen + 1), .slice p6 nb c6, .slice none 0 0] rfl rfl hth sizeR (by simp [Value.oneCell']) ?_
    have hA9 : At 79 (V.setCells gn 0 (#[.int .i64 (gen + 1), .slice p6 nb c6, .slice none 0 0] : Array Value).toList) gn #[.int .i64 (gen + 1), .slice p6 nb c6, .slice none 0 0] := At.put3 hV.2.2 _ _ _
    have hE9 : Ex gn V (V.setCells gn 0 (#[.int .i64 (gen + 1), .slice p6 nb c6, .slice none 0 0] : Array Value).toList) := (((Ex.refl gn V).setCell 0 _).setCell 1 _).setCell 2 _
    have hO9 := hV.2.1.exT hV.2.2 hE9 (by decide)
    have hb9 : Below w0.heap.size w0 (V.setCells gn 0 (#[.int .i64 (gen + 1), .slice p6 nb c6, .slice none 0 0] : Array Value).toList) := (Bl.out' hV.1).trans (hE9.below hgn hV.2.2.lt)
    refine hK.out (fun W => Bl w0 W ∧ Ow .u8 5 W w0.heap.size p6 nb c6 base ∧ At 79 W gn #[.int .i64 (gen + 1), .slice p6 nb c6, .slice none 0 0]) _ _ (fun W W' h hb => ⟨Bl.stays w0 W W' h.1 hb, h.2.1.below hb, h.2.2.below hb⟩) (no_lean (by kernel_rfl)) ⟨hb9, hO9, hA9⟩ ?_
    clear hK K hV hth hA9 hE9 hO9 hb9
    (try simp only [Act.put, List.getElem_toArray, List.getElem_cons_zero, List.getElem_cons_succ, List.setIfInBounds_toArray, List.set_cons_zero, List.set_cons_succ])
    refine wpDet_done (by kernel_rfl) (fun W1 hW1 => ?_) _
    obtain ⟨hbW1', hO1, hA1⟩ := hW1
    have hbW1 := Bl.out' hbW1'
    have hq1 := hGq.below hbW1
    have hgnq : gn ≠ gq := by have := HGQ.out; omega
    have hw0n : w0.heap.size ≤ gn := hgn
    obtain ⟨Bv, HBv⟩ : ∃ z, z = W1.heap.size := ⟨_, rfl⟩
    have hgnB : gn < Bv := by rw [HBv]; exact hA1.lt
    have hgqB : gq < Bv := by rw [HBv]; exact hq1.lt
    have hB0 : w0.heap.size ≤ Bv := by rw [HBv]; exact hbW1.size
    have hst : FlI w0 gn gq gen p6 nb c6 base Bv none 0 0 none 0 0 [] (recs.take 0) W1 := ⟨hA1, hq1, hO1, OwV.empty _ _ _ _, Slo.nil _ _ _, hbW1, by rw [HBv]; exact Nat.le_refl _⟩
    clear hO1 hA1 hbW1' HBv hq1
    go_wp2_with fail
    go_loopw [20] (fun ix wr => ∃ (k : Nat) (pq : Option Addr) (cq : Nat) (vq : List Value), k ≤ nr ∧ ix = .int .i64 k ∧ FlI w0 gn gq gen p6 nb c6 base Bv pq k cq pq k cq vq (recs.take k) wr) (fun ix _ => nr - (intOf ix).toNat)
    case atStart => exact ⟨0, none, 0, [], Nat.zero_le _, rfl, hst⟩
    case round =>
      clear hst
      obtain ⟨k, pq, cq, vq, hk, rfl, ⟨hAn, hAq, hOb, hOv, hSo, hbw, hBv⟩⟩ := hrel
      by_cases hkn : k < nr
      · have hki : (k : Int) < (nr : Int) := by omega
        have hww : Below w0.heap.size w0 wr := hbw
        have hvw := hv.below hww
        obtain ⟨bv, ov, hpe, hcv⟩ := hvw.cells (by omega)
        subst hpe
        have hck := hcv k hkn
        obtain ⟨q0, m0, e0, hq0, hr0⟩ := (hs.below hww).2 k (by rw [hv.len]; exact hkn)
        rw [hq0] at hck
        have hl0 := hrec k (by rw [← HN.out]; exact hkn)
        have hm0 : m0 ≤ 8192 := by rw [← hr0.len]; exact hl0
        have HTK : Hid (recs.take (k + 1) = recs.take k ++ [recs.getD k []]) := take_snocV (by rw [← HN.out]; exact hkn)
        generalize recs.getD k [] = y at *
        have hS5w : ∀ W, Bl wr W → W.cell? ⟨gn, 2, none⟩ = some (.slice pq k cq) := fun W h => (hAn.below (Bl.out' h)).cell 2
        have hS5 : Bl wr wr.drew := (Below.refl _ _).drew
        clear hcv
        go_wp2_with fail
        refine wp_region_det [0, 1, 2] (fun W => W.cell? ⟨gn, 2, none⟩ = some (.slice pq k cq)) (Bl wr) (by kernel_rfl) hS5 ?_
        refine wpDet_take ?vL0 (Bl.stays wr) hS5w (i := 0) rfl (by kernel_rfl) (by kernel_rfl) (by kernel_rfl) (by kernel_rfl) (fun _ _ _ h => h) (Gives.value (by rfl) ?yL0) ?rL0
        case yL0 => (intro w' hSw; go_simp; try with_reducible rfl)
        (try simp only [Act.put, List.getElem_toArray, List.getElem_cons_zero, List.getElem_cons_succ, List.setIfInBounds_toArray, List.set_cons_zero, List.set_cons_succ])
        refine wpDet_take ?vL1 (Bl.stays wr) hS5w (i := 1) rfl (by kernel_rfl) (by kernel_rfl) (by kernel_rfl) (by kernel_rfl) (fun _ _ _ h => h) (Gives.value (by rfl) ?yL1) ?rL1
        case yL1 => (intro w' hSw; have hz0 := hSw; go_simp; try with_reducible rfl)
        (try simp only [Act.put, List.getElem_toArray, List.getElem_cons_zero, List.getElem_cons_succ, List.setIfInBounds_toArray, List.set_cons_zero, List.set_cons_succ])
        refine wpDet_take ?vL2 (Bl.stays wr) hS5w (i := 2) rfl (by kernel_rfl) (by kernel_rfl) (by kernel_rfl) (by kernel_rfl) (fun _ _ _ h => h) (Gives.value (by rfl) ?yL2) ?rL2
        case yL2 => (intro w' hSw; go_simp; try with_reducible rfl)
        (try simp only [Act.put, List.getElem_toArray, List.getElem_cons_zero, List.getElem_cons_succ, List.setIfInBounds_toArray, List.set_cons_zero, List.set_cons_succ])
        refine wpDet_ready (rs := [3]) (by kernel_rfl) (by simp) (AllDet.cons rfl (fun V hV K hK => ?_) AllDet.nil)
        rw [if_pos (by rfl)]
        have hC := bcloneO q0 m0 e0 y V (hr0.below (Bl.out' hV)) (by omega)
        refine wp_enterX 53 #[.slice q0 m0 e0] (by first | (go_simp; done) | (go_simp; rfl)) (fun v V' => ∃ p' c', v = .slice p' m0 c' ∧ Ow .u8 5 V' V.heap.size p' m0 c' y ∧ Below V.heap.size V V') (hC.mono fun e V' ⟨p', c', h1, h2, h3⟩ => ⟨_, h1, p', c', rfl, h2, h3⟩) ?_
        rintro v V' ⟨p7, c7, rfl, ho7, hb7⟩
        refine hK.out (fun W => Bl wr W ∧ Ow .u8 5 W Bv p7 m0 c7 y) _ _ (fun W W' h hb => ⟨Bl.stays wr W W' h.1 hb, h.2.below hb⟩) (fun _ W h => hS5w W h.1) ⟨Bl.stays wr V V' hV hb7, ho7.lower (Nat.le_trans hBv (Bl.out' hV).size)⟩ ?_
        clear hK K hC hV ho7 hb7
        (try simp only [Act.put, List.getElem_toArray, List.getElem_cons_zero, List.getElem_cons_succ, List.setIfInBounds_toArray, List.set_cons_zero, List.set_cons_succ])
        refine wpDet_ready (rs := [4]) (by kernel_rfl) (by simp) (AllDet.cons rfl (fun V hV K hK => ?_) AllDet.nil)
        rw [if_pos (by rfl)]
        refine wp_value (.slice (some ⟨V.heap.size, 0, none⟩) 1 1) (V.alloc (.cells #[.slice p7 m0 c7] 40)) (by first | (go_simp; done) | (go_simp; rfl)) ?_
        have hba := below_alloc V (.cells #[.slice p7 m0 c7] 40)
        have hA8 := At.new 40 V #[.slice p7 m0 c7]
        obtain ⟨gs, hgs⟩ : ∃ z, z = V.heap.size := ⟨_, rfl⟩
        rw [← hgs] at hA8 ⊢
        refine hK.out (fun W => Bl wr W ∧ Ow .u8 5 W Bv p7 m0 c7 y ∧ W.cell? ⟨gs, 0, none⟩ = some (.slice p7 m0 c7)) _ _ (fun W W' h hb => ⟨Bl.stays wr W W' h.1 hb, h.2.1.below hb, cell_below hb h.2.2⟩) (fun _ W h => hS5w W h.1) ⟨Bl.stays wr V _ hV.1 hba, hV.2.below hba, hA8.cell 0⟩ ?_
        clear hK K hV hba hA8 hgs
        (try simp only [Act.put, List.getElem_toArray, List.getElem_cons_zero, List.getElem_cons_succ, List.setIfInBounds_toArray, List.set_cons_zero, List.set_cons_succ])
        refine wpDet_ready (rs := [5]) (by kernel_rfl) (by simp) (AllDet.cons rfl (fun V hV K hK => ?_) AllDet.nil)
        rw [if_pos (by rfl)]
        obtain ⟨p8, c8, V8, hrun, hO8, hb8, hk8⟩ := run_appV (P := Tryz.prog) (d := 1) V 41 41 40 i1 (.slice none 0 0) 24 Tryz.underlying41 hi1 hy0 hy1 hy2 rfl (hOv.below (Bl.out' hV.1)) hV.2.2 rfl (by omega) (by unfold maxLen; omega) (Nat.le_trans hBv (Bl.out' hV.1).size)
        refine wp_app _ _ 41 rfl (.slice pq k cq) (.slice (some ⟨gs, 0, none⟩) 1 1) rfl rfl (.slice p8 (k + 1) c8) V8 hrun ?_
        have hB8 : Bv ≤ V.heap.size := Nat.le_trans hBv (Bl.out' hV.1).size
        have hgnV := hAn.below (Bl.out' hV.1)
        have hA8n : At 79 V8 gn #[.int .i64 (gen + 1), .slice p6 nb c6, .slice pq k cq] := (hb8.block gn hgnB).trans hgnV
        have hA8q : At 79 V8 gq #[.int .i64 0, .slice none 0 0, .slice none 0 0] := (hb8.block gq hgqB).trans (hAq.below (Bl.out' hV.1))
        have hO8b := (hOb.below (Bl.out' hV.1)).keptT hk8 (by decide)
        have hS8 := ((hSo.below (Bl.out' hV.1)).kept hk8 (by decide)).snoc (hV.2.1.keptT hk8 (by decide))
        have hb8w : Below w0.heap.size w0 V8 := (hbw.trans ((Bl.out' hV.1).mono hbw.size)).trans (hb8.mono hB0)
        have hB8' : Bv ≤ V8.heap.size := Nat.le_trans hB8 hb8.size
        refine hK.out (FlI w0 gn gq gen p6 nb c6 base Bv pq k cq p8 (k + 1) c8 (vq ++ [.slice p7 m0 c7]) (recs.take k ++ [y])) _ _ (FlI.stays _ _ _ _ _ _ _ _ _ _ _ _ _ _ _ _ _) (fun _ W h => h.an.cell 2) ⟨hA8n, hA8q, hO8b, hO8, hS8, hb8w, hB8'⟩ ?_
        clear hK K hV hrun hO8 hb8 hk8 hgnV hA8n hA8q hO8b hS8 hb8w hB8 hB8'
        (try simp only [Act.put, List.getElem_toArray, List.getElem_cons_zero, List.getElem_cons_succ, List.setIfInBounds_toArray, List.set_cons_zero, List.set_cons_succ])
        refine wpDet_ready (rs := [6]) (by kernel_rfl) (by simp) (AllDet.cons rfl (fun V hV K hK => ?_) AllDet.nil)
        rw [if_pos (by rfl)]
        refine wp_value (.pointer (some ⟨gn, 2, none⟩)) V (by first | (go_simp; done) | (go_simp; rfl)) ?_
        refine hK.out (FlI w0 gn gq gen p6 nb c6 base Bv pq k cq p8 (k + 1) c8 (vq ++ [.slice p7 m0 c7]) (recs.take k ++ [y])) _ _ (FlI.stays _ _ _ _ _ _ _ _ _ _ _ _ _ _ _ _ _) (fun _ W h => h.an.cell 2) hV ?_
        clear hK K hV
        (try simp only [Act.put, List.getElem_toArray, List.getElem_cons_zero, List.getElem_cons_succ, List.setIfInBounds_toArray, List.set_cons_zero, List.set_cons_succ])
        refine wpDet_ready (rs := [7]) (by kernel_rfl) (by simp) (AllDet.cons rfl (fun V hV K hK => ?_) AllDet.nil)
        rw [if_pos (by rfl)]
        refine wp_store_slice _ _ _ rfl gn 2 p8 (k + 1) c8 _ rfl rfl sizeSlV (hV.an.cell 2) (hV.an.free 2) ?_
        have hE : Ex gn V (V.setCell ⟨gn, 2, none⟩ (.slice p8 (k + 1) c8)) := (Ex.refl gn V).setCell 2 _
        have hz := hV.put hE hgnq hgnB hw0n
        refine hK.out (FlI w0 gn gq gen p6 nb c6 base Bv p8 (k + 1) c8 p8 (k + 1) c8 (vq ++ [.slice p7 m0 c7]) (recs.take k ++ [y])) _ _ (FlI.stays _ _ _ _ _ _ _ _ _ _ _ _ _ _ _ _ _) (no_lean (by kernel_rfl)) hz ?_
        clear hK K hV hE hz
        (try simp only [Act.put, List.getElem_toArray, List.getElem_cons_zero, List.getElem_cons_succ, List.setIfInBounds_toArray, List.set_cons_zero, List.set_cons_succ])
        refine wpDet_done (by kernel_rfl) (fun W6 hW6 => ?_) _
        obtain ⟨hAn6, hAq6, hOb6, hOv6, hSo6, hbw6, hBv6⟩ := hW6
        clear hAn hAq hOb hOv hSo hbw hBv hS5 hS5w hck hvw hww
        go_wp2_with fail
        go_roundw
        case rel => exact ⟨k + 1, p8, c8, vq ++ [.slice p7 m0 c7], by omega, by go_num, ⟨hAn6, hAq6, hOb6, hOv6, by rw [HTK.out]; exact hSo6, hbw6, hBv6⟩⟩
        case measure => simp [intOf]; omega
      · have hki : ¬ (k : Int) < (nr : Int) := by omega
        have et : recs.take k = recs := List.take_of_length_le (by rw [← HN.out]; omega)
        have Hkk : Hid (k = recs.length) := by show _ = _; rw [← HN.out]; omega
        rw [et] at hSo
        obtain ⟨x0, x1, x2⟩ := hAn.three
        obtain ⟨z0, z1, z2⟩ := hAq.three
        have f0 := hAq.free 0
        have f1 := hAq.free 1
        have f2 := hAq.free 2
        have hGz := At.put3 hAq (.int .i64 (gen + 1)) (.slice p6 nb c6) (.slice pq k cq)
        have hEz : Ex gq wr (((wr.setCell ⟨gq, 0, none⟩ (.int .i64 (gen + 1))).setCell ⟨gq, 1, none⟩ (.slice p6 nb c6)).setCell ⟨gq, 2, none⟩ (.slice pq k cq)) := (((Ex.refl gq wr).setCell 0 _).setCell 1 _).setCell 2 _
        have hObz := hOb.exT hAq hEz (by decide)
        have hOvz := hOv.exT hAq hEz (by decide)
        have hSoz := hSo.exT hAq hEz (by decide)
        have hbz : Below w.heap.size w (((wr.setCell ⟨gq, 0, none⟩ (.int .i64 (gen + 1))).setCell ⟨gq, 1, none⟩ (.slice p6 nb c6)).setCell ⟨gq, 2, none⟩ (.slice pq k cq)) := (hbaw.trans (hbw.mono hbaw.size)).trans (hEz.below (by rw [HGQ2.out]; exact Nat.le_refl _) hAq.lt)
        clear hAn hAq hOb hOv hSo hEz
        go_wp2_with fail
        refine bodyPost_ret (results_reel1 (p := 6) rfl _ _ gq _ _ _ rfl hGz) rfl ⟨⟨_, rfl, p6, nb, c6, pq, cq, vq, ?_, hObz.lower hbaw.size, ?_, hSoz.lower ?_⟩, hbz⟩
        · show Value.agg #[_, _, _] = Value.agg #[_, _, _]
          rw [Hkk.out]
        · show OwV _ _ _ _ recs.length _ _
          rw [← Hkk.out]
          exact hOvz.lowerB (Nat.le_trans hbaw.size hB0)
        · exact Nat.le_trans hbaw.size hB0
  · rw [if_pos (by rfl)]
    refine wp_value (.pointer (some ⟨V.heap.size, 0, none⟩)) (V.alloc (.cells #[.int .i64 0, .slice none 0 0, .slice none 0 0] 79)) (by first | (go_simp; done) | (go_simp; rfl)) ?_
    have hba := below_alloc V (.cells #[.int .i64 0, .slice none 0 0, .slice none 0 0] 79)
    have hA8 := At.new 79 V #[.int .i64 0, .slice none 0 0, .slice none 0 0]
    have hb5 := Bl.stays w0 V _ hV hba
    have hgn : w0.heap.size ≤ V.heap.size := (Bl.out' hV).size
    obtain ⟨gn, hgne⟩ : ∃ z, z = V.heap.size := ⟨_, rfl⟩
    rw [← hgne] at hA8 hgn ⊢
    refine hK.out (fun W => Bl w0 W ∧ True ∧ At 79 W gn #[.int .i64 0, .slice none 0 0, .slice none 0 0]) _ _ (fun W W' h hb => ⟨Bl.stays w0 W W' h.1 hb, h.2.1, h.2.2.below hb⟩) (fun _ W h => hS0w W h.1) ⟨hb5, trivial, hA8⟩ ?_
    clear hK K hV hba hA8 hb5 hgne
    (try simp only [Act.put, List.getElem_toArray, List.getElem_cons_zero, List.getElem_cons_succ, List.setIfInBounds_toArray, List.set_cons_zero, List.set_cons_succ])
    refine wpDet_ready (rs := [6]) (by kernel_rfl) (by simp) (AllDet.cons rfl (fun V hV K hK => ?_) AllDet.nil)
    rw [if_pos (by rfl)]
    have hC := bcloneO pb nb cb base V (hbr.below (Bl.out' hV.1)) (by omega)
    refine wp_enterX 53 #[.slice pb nb cb] (by first | (go_simp; done) | (go_simp; rfl)) (fun v V' => ∃ p' c', v = .slice p' nb c' ∧ Ow .u8 5 V' V.heap.size p' nb c' base ∧ Below V.heap.size V V') (hC.mono fun e V' ⟨p', c', h1, h2, h3⟩ => ⟨_, h1, p', c', rfl, h2, h3⟩) ?_
    rintro v V' ⟨p6, c6, rfl, ho6, hb6⟩
    refine hK.out (fun W => Bl w0 W ∧ Ow .u8 5 W w0.heap.size p6 nb c6 base ∧ At 79 W gn #[.int .i64 0, .slice none 0 0, .slice none 0 0]) _ _ (fun W W' h hb => ⟨Bl.stays w0 W W' h.1 hb, h.2.1.below hb, h.2.2.below hb⟩) (fun _ W h => hS0w W h.1) ⟨Bl.stays w0 V V' hV.1 hb6, ho6.lower (Bl.out' hV.1).size, hV.2.2.below hb6⟩ ?_
    clear hK K hC hV ho6 hb6
    (try simp only [Act.put, List.getElem_toArray, List.getElem_cons_zero, List.getElem_cons_succ, List.setIfInBounds_toArray, List.set_cons_zero, List.set_cons_succ])
    refine wpDet_take ?vU7 (fun W W' h hb => ⟨Bl.stays w0 W W' h.1 hb, h.2.1.below hb, h.2.2.below hb⟩) (fun W h => hS0w W h.1) (i := 7) rfl (by kernel_rfl) (by kernel_rfl) (by kernel_rfl) (by kernel_rfl) (fun _ _ _ h => h) (Gives.value (by rfl) ?yU7) ?rU7
    case yU7 => (intro w' hSw; go_simp; try with_reducible rfl)
    (try simp only [Act.put, List.getElem_toArray, List.getElem_cons_zero, List.getElem_cons_succ, List.setIfInBounds_toArray, List.set_cons_zero, List.set_cons_succ])
    refine wpDet_ready (rs := [9]) (by kernel_rfl) (by simp) (AllDet.cons rfl (fun V hV K hK => ?_) AllDet.nil)
    rw [if_pos (by rfl)]
    have hth : V.there gn 0 3 := fun j hj => by
      rw [Nat.zero_add]
      refine ⟨?_, hV.2.2.free j⟩
      match j, hj with
      | 0, _ => rw [hV.2.2.cell 0]; rfl
      | 1, _ => rw [hV.2.2.cell 1]; rfl
      | 2, _ => rw [hV.2.2.cell 2]; rfl
    refine wp_store_mid 79 _ _ rfl gn 0 #[.int .i64 (gen + 1), .slice p6 nb c6, .slice none 0 0] rfl rfl hth sizeR (by simp [Value.oneCell']) ?_
    have hA9 : At 79 (V.setCells gn 0 (#[.int .i64 (gen + 1), .slice p6 nb c6, .slice none 0 0] : Array Value).toList) gn #[.int .i64 (gen + 1), .slice p6 nb c6, .slice none 0 0] := At.put3 hV.2.2 _ _ _
    have hE9 : Ex gn V (V.setCells gn 0 (#[.int .i64 (gen + 1), .slice p6 nb c6, .slice none 0 0] : Array Value).toList) := (((Ex.refl gn V).setCell 0 _).setCell 1 _).setCell 2 _
    have hO9 := hV.2.1.exT hV.2.2 hE9 (by decide)
    have hb9 : Below w0.heap.size w0 (V.setCells gn 0 (#[.int .i64 (gen + 1), .slice p6 nb c6, .slice none 0 0] : Array Value).toList) := (Bl.out' hV.1).trans (hE9.below hgn hV.2.2.lt)
    refine hK.out (fun W => Bl w0 W ∧ Ow .u8 5 W w0.heap.size p6 nb c6 base ∧ At 79 W gn #[.int .i64 (gen + 1), .slice p6 nb c6, .slice none 0 0]) _ _ (fun W W' h hb => ⟨Bl.stays w0 W W' h.1 hb, h.2.1.below hb, h.2.2.below hb⟩) (no_lean (by kernel_rfl)) ⟨hb9, hO9, hA9⟩ ?_
    clear hK K hV hth hA9 hE9 hO9 hb9
    (try simp only [Act.put, List.getElem_toArray, List.getElem_cons_zero, List.getElem_cons_succ, List.setIfInBounds_toArray, List.set_cons_zero, List.set_cons_succ])
    refine wpDet_done (by kernel_rfl) (fun W1 hW1 => ?_) _
    obtain ⟨hbW1', hO1, hA1⟩ := hW1
    have hbW1 := Bl.out' hbW1'
    have hq1 := hGq.below hbW1
    have hgnq : gn ≠ gq := by have := HGQ.out; omega
    have hw0n : w0.heap.size ≤ gn := hgn
    obtain ⟨Bv, HBv⟩ : ∃ z, z = W1.heap.size := ⟨_, rfl⟩
    have hgnB : gn < Bv := by rw [HBv]; exact hA1.lt
    have hgqB : gq < Bv := by rw [HBv]; exact hq1.lt
    have hB0 : w0.heap.size ≤ Bv := by rw [HBv]; exact hbW1.size
    have hst : FlI w0 gn gq gen p6 nb c6 base Bv none 0 0 none 0 0 [] (recs.take 0) W1 := ⟨hA1, hq1, hO1, OwV.empty _ _ _ _, Slo.nil _ _ _, hbW1, by rw [HBv]; exact Nat.le_refl _⟩
    clear hO1 hA1 hbW1' HBv hq1
    go_wp2_with fail
    go_loopw [20] (fun ix wr => ∃ (k : Nat) (pq : Option Addr) (cq : Nat) (vq : List Value), k ≤ nr ∧ ix = .int .i64 k ∧ FlI w0 gn gq gen p6 nb c6 base Bv pq k cq pq k cq vq (recs.take k) wr) (fun ix _ => nr - (intOf ix).toNat)
    case atStart => exact ⟨0, none, 0, [], Nat.zero_le _, rfl, hst⟩
    case round =>
      clear hst
      obtain ⟨k, pq, cq, vq, hk, rfl, ⟨hAn, hAq, hOb, hOv, hSo, hbw, hBv⟩⟩ := hrel
      by_cases hkn : k < nr
      · have hki : (k : Int) < (nr : Int) := by omega
        have hww : Below w0.heap.size w0 wr := hbw
        have hvw := hv.below hww
        obtain ⟨bv, ov, hpe, hcv⟩ := hvw.cells (by omega)
        subst hpe
        have hck := hcv k hkn
        obtain ⟨q0, m0, e0, hq0, hr0⟩ := (hs.below hww).2 k (by rw [hv.len]; exact hkn)
        rw [hq0] at hck
        have hl0 := hrec k (by rw [← HN.out]; exact hkn)
        have hm0 : m0 ≤ 8192 := by rw [← hr0.len]; exact hl0
        have HTK : Hid (recs.take (k + 1) = recs.take k ++ [recs.getD k []]) := take_snocV (by rw [← HN.out]; exact hkn)
        generalize recs.getD k [] = y at *
        have hS5w : ∀ W, Bl wr W → W.cell? ⟨gn, 2, none⟩ = some (.slice pq k cq) := fun W h => (hAn.below (Bl.out' h)).cell 2
        have hS5 : Bl wr wr.drew := (Below.refl _ _).drew
        clear hcv
        go_wp2_with fail
        refine wp_region_det [0, 1, 2] (fun W => W.cell? ⟨gn, 2, none⟩ = some (.slice pq k cq)) (Bl wr) (by kernel_rfl) hS5 ?_
        refine wpDet_take ?vM0 (Bl.stays wr) hS5w (i := 0) rfl (by kernel_rfl) (by kernel_rfl) (by kernel_rfl) (by kernel_rfl) (fun _ _ _ h => h) (Gives.value (by rfl) ?yM0) ?rM0
        case yM0 => (intro w' hSw; go_simp; try with_reducible rfl)
        (try simp only [Act.put, List.getElem_toArray, List.getElem_cons_zero, List.getElem_cons_succ, List.setIfInBounds_toArray, List.set_cons_zero, List.set_cons_succ])
        refine wpDet_take ?vM1 (Bl.stays wr) hS5w (i := 1) rfl (by kernel_rfl) (by kernel_rfl) (by kernel_rfl) (by kernel_rfl) (fun _ _ _ h => h) (Gives.value (by rfl) ?yM1) ?rM1
        case yM1 => (intro w' hSw; have hz0 := hSw; go_simp; try with_reducible rfl)
        (try simp only [Act.put, List.getElem_toArray, List.getElem_cons_zero, List.getElem_cons_succ, List.setIfInBounds_toArray, List.set_cons_zero, List.set_cons_succ])
        refine wpDet_take ?vM2 (Bl.stays wr) hS5w (i := 2) rfl (by kernel_rfl) (by kernel_rfl) (by kernel_rfl) (by kernel_rfl) (fun _ _ _ h => h) (Gives.value (by rfl) ?yM2) ?rM2
        case yM2 => (intro w' hSw; go_simp; try with_reducible rfl)
        (try simp only [Act.put, List.getElem_toArray, List.getElem_cons_zero, List.getElem_cons_succ, List.setIfInBounds_toArray, List.set_cons_zero, List.set_cons_succ])
        refine wpDet_ready (rs := [3]) (by kernel_rfl) (by simp) (AllDet.cons rfl (fun V hV K hK => ?_) AllDet.nil)
        rw [if_pos (by rfl)]
        have hC := bcloneO q0 m0 e0 y V (hr0.below (Bl.out' hV)) (by omega)
        refine wp_enterX 53 #[.slice q0 m0 e0] (by first | (go_simp; done) | (go_simp; rfl)) (fun v V' => ∃ p' c', v = .slice p' m0 c' ∧ Ow .u8 5 V' V.heap.size p' m0 c' y ∧ Below V.heap.size V V') (hC.mono fun e V' ⟨p', c', h1, h2, h3⟩ => ⟨_, h1, p', c', rfl, h2, h3⟩) ?_
        rintro v V' ⟨p7, c7, rfl, ho7, hb7⟩
        refine hK.out (fun W => Bl wr W ∧ Ow .u8 5 W Bv p7 m0 c7 y) _ _ (fun W W' h hb => ⟨Bl.stays wr W W' h.1 hb, h.2.below hb⟩) (fun _ W h => hS5w W h.1) ⟨Bl.stays wr V V' hV hb7, ho7.lower (Nat.le_trans hBv (Bl.out' hV).size)⟩ ?_
        clear hK K hC hV ho7 hb7
        (try simp only [Act.put, List.getElem_toArray, List.getElem_cons_zero, List.getElem_cons_succ, List.setIfInBounds_toArray, List.set_cons_zero, List.set_cons_succ])
        refine wpDet_ready (rs := [4]) (by kernel_rfl) (by simp) (AllDet.cons rfl (fun V hV K hK => ?_) AllDet.nil)
        rw [if_pos (by rfl)]
        refine wp_value (.slice (some ⟨V.heap.size, 0, none⟩) 1 1) (V.alloc (.cells #[.slice p7 m0 c7] 40)) (by first | (go_simp; done) | (go_simp; rfl)) ?_
        have hba := below_alloc V (.cells #[.slice p7 m0 c7] 40)
        have hA8 := At.new 40 V #[.slice p7 m0 c7]
        obtain ⟨gs, hgs⟩ : ∃ z, z = V.heap.size := ⟨_, rfl⟩
        rw [← hgs] at hA8 ⊢
        refine hK.out (fun W => Bl wr W ∧ Ow .u8 5 W Bv p7 m0 c7 y ∧ W.cell? ⟨gs, 0, none⟩ = some (.slice p7 m0 c7)) _ _ (fun W W' h hb => ⟨Bl.stays wr W W' h.1 hb, h.2.1.below hb, cell_below hb h.2.2⟩) (fun _ W h => hS5w W h.1) ⟨Bl.stays wr V _ hV.1 hba, hV.2.below hba, hA8.cell 0⟩ ?_
        clear hK K hV hba hA8 hgs
        (try simp only [Act.put, List.getElem_toArray, List.getElem_cons_zero, List.getElem_cons_succ, List.setIfInBounds_toArray, List.set_cons_zero, List.set_cons_succ])
        refine wpDet_ready (rs := [5]) (by kernel_rfl) (by simp) (AllDet.cons rfl (fun V hV K hK => ?_) AllDet.nil)
        rw [if_pos (by rfl)]
        obtain ⟨p8, c8, V8, hrun, hO8, hb8, hk8⟩ := run_appV (P := Tryz.prog) (d := 1) V 41 41 40 i1 (.slice none 0 0) 24 Tryz.underlying41 hi1 hy0 hy1 hy2 rfl (hOv.below (Bl.out' hV.1)) hV.2.2 rfl (by omega) (by unfold maxLen; omega) (Nat.le_trans hBv (Bl.out' hV.1).size)
        refine wp_app _ _ 41 rfl (.slice pq k cq) (.slice (some ⟨gs, 0, none⟩) 1 1) rfl rfl (.slice p8 (k + 1) c8) V8 hrun ?_
        have hB8 : Bv ≤ V.heap.size := Nat.le_trans hBv (Bl.out' hV.1).size
        have hgnV := hAn.below (Bl.out' hV.1)
        have hA8n : At 79 V8 gn #[.int .i64 (gen + 1), .slice p6 nb c6, .slice pq k cq] := (hb8.block gn hgnB).trans hgnV
        have hA8q : At 79 V8 gq #[.int .i64 0, .slice none 0 0, .slice none 0 0] := (hb8.block gq hgqB).trans (hAq.below (Bl.out' hV.1))
        have hO8b := (hOb.below (Bl.out' hV.1)).keptT hk8 (by decide)
        have hS8 := ((hSo.below (Bl.out' hV.1)).kept hk8 (by decide)).snoc (hV.2.1.keptT hk8 (by decide))
        have hb8w : Below w0.heap.size w0 V8 := (hbw.trans ((Bl.out' hV.1).mono hbw.size)).trans (hb8.mono hB0)
        have hB8' : Bv ≤ V8.heap.size := Nat.le_trans hB8 hb8.size
        refine hK.out (FlI w0 gn gq gen p6 nb c6 base Bv pq k cq p8 (k + 1) c8 (vq ++ [.slice p7 m0 c7]) (recs.take k ++ [y])) _ _ (FlI.stays _ _ _ _ _ _ _ _ _ _ _ _ _ _ _ _ _) (fun _ W h => h.an.cell 2) ⟨hA8n, hA8q, hO8b, hO8, hS8, hb8w, hB8'⟩ ?_
        clear hK K hV hrun hO8 hb8 hk8 hgnV hA8n hA8q hO8b hS8 hb8w hB8 hB8'
        (try simp only [Act.put, List.getElem_toArray, List.getElem_cons_zero, List.getElem_cons_succ, List.setIfInBounds_toArray, List.set_cons_zero, List.set_cons_succ])
        refine wpDet_ready (rs := [6]) (by kernel_rfl) (by simp) (AllDet.cons rfl (fun V hV K hK => ?_) AllDet.nil)
        rw [if_pos (by rfl)]
        refine wp_value (.pointer (some ⟨gn, 2, none⟩)) V (by first | (go_simp; done) | (go_simp; rfl)) ?_
        refine hK.out (FlI w0 gn gq gen p6 nb c6 base Bv pq k cq p8 (k + 1) c8 (vq ++ [.slice p7 m0 c7]) (recs.take k ++ [y])) _ _ (FlI.stays _ _ _ _ _ _ _ _ _ _ _ _ _ _ _ _ _) (fun _ W h => h.an.cell 2) hV ?_
        clear hK K hV
        (try simp only [Act.put, List.getElem_toArray, List.getElem_cons_zero, List.getElem_cons_succ, List.setIfInBounds_toArray, List.set_cons_zero, List.set_cons_succ])
        refine wpDet_ready (rs := [7]) (by kernel_rfl) (by simp) (AllDet.cons rfl (fun V hV K hK => ?_) AllDet.nil)
        rw [if_pos (by rfl)]
        refine wp_store_slice _ _ _ rfl gn 2 p8 (k + 1) c8 _ rfl rfl sizeSlV (hV.an.cell 2) (hV.an.free 2) ?_
        have hE : Ex gn V (V.setCell ⟨gn, 2, none⟩ (.slice p8 (k + 1) c8)) := (Ex.refl gn V).setCell 2 _
        have hz := hV.put hE hgnq hgnB hw0n
        refine hK.out (FlI w0 gn gq gen p6 nb c6 base Bv p8 (k + 1) c8 p8 (k + 1) c8 (vq ++ [.slice p7 m0 c7]) (recs.take k ++ [y])) _ _ (FlI.stays _ _ _ _ _ _ _ _ _ _ _ _ _ _ _ _ _) (no_lean (by kernel_rfl)) hz ?_
        clear hK K hV hE hz
        (try simp only [Act.put, List.getElem_toArray, List.getElem_cons_zero, List.getElem_cons_succ, List.setIfInBounds_toArray, List.set_cons_zero, List.set_cons_succ])
        refine wpDet_done (by kernel_rfl) (fun W6 hW6 => ?_) _
        obtain ⟨hAn6, hAq6, hOb6, hOv6, hSo6, hbw6, hBv6⟩ := hW6
        clear hAn hAq hOb hOv hSo hbw hBv hS5 hS5w hck hvw hww
        go_wp2_with fail
        go_roundw
        case rel => exact ⟨k + 1, p8, c8, vq ++ [.slice p7 m0 c7], by omega, by go_num, ⟨hAn6, hAq6, hOb6, hOv6, by rw [HTK.out]; exact hSo6, hbw6, hBv6⟩⟩
        case measure => simp [intOf]; omega
      · have hki : ¬ (k : Int) < (nr : Int) := by omega
        have et : recs.take k = recs := List.take_of_length_le (by rw [← HN.out]; omega)
        have Hkk : Hid (k = recs.length) := by show _ = _; rw [← HN.out]; omega
        rw [et] at hSo
        obtain ⟨x0, x1, x2⟩ := hAn.three
        obtain ⟨z0, z1, z2⟩ := hAq.three
        have f0 := hAq.free 0
        have f1 := hAq.free 1
        have f2 := hAq.free 2
        have hGz := At.put3 hAq (.int .i64 (gen + 1)) (.slice p6 nb c6) (.slice pq k cq)
        have hEz : Ex gq wr (((wr.setCell ⟨gq, 0, none⟩ (.int .i64 (gen + 1))).setCell ⟨gq, 1, none⟩ (.slice p6 nb c6)).setCell ⟨gq, 2, none⟩ (.slice pq k cq)) := (((Ex.refl gq wr).setCell 0 _).setCell 1 _).setCell 2 _
        have hObz := hOb.exT hAq hEz (by decide)
        have hOvz := hOv.exT hAq hEz (by decide)
        have hSoz := hSo.exT hAq hEz (by decide)
        have hbz : Below w.heap.size w (((wr.setCell ⟨gq, 0, none⟩ (.int .i64 (gen + 1))).setCell ⟨gq, 1, none⟩ (.slice p6 nb c6)).setCell ⟨gq, 2, none⟩ (.slice pq k cq)) := (hbaw.trans (hbw.mono hbaw.size)).trans (hEz.below (by rw [HGQ2.out]; exact Nat.le_refl _) hAq.lt)
        clear hAn hAq hOb hOv hSo hEz
        go_wp2_with fail
        refine bodyPost_ret (results_reel1 (p := 6) rfl _ _ gq _ _ _ rfl hGz) rfl ⟨⟨_, rfl, p6, nb, c6, pq, cq, vq, ?_, hObz.lower hbaw.size, ?_, hSoz.lower ?_⟩, hbz⟩
        · show Value.agg #[_, _, _] = Value.agg #[_, _, _]
          rw [Hkk.out]
        · show OwV _ _ _ _ recs.length _ _
          rw [← Hkk.out]
          exact hOvz.lowerB (Nat.le_trans hbaw.size hB0)
        · exact Nat.le_trans hbaw.size hB0

end Go.Proofs.YtpjhadaiodnnaaaGreat.M
end

section
namespace Go.Proofs.YtpjhadaiodnnaaaGreat.M
open Go.ChangeShapes Go.WideShapes Go.ChangeAt Go.RowKit

/-- Are all records short? -/
def shortV (recs : List (List Int)) : Bool := recs.all fun y => decide (y.length ≤ 8192)

theorem shortV_get {recs : List (List Int)} (h : shortV recs = true) : ∀ i, i < recs.length → (recs.getD i []).length ≤ 8192 := fun i hi => by
  unfold shortV at h
  rw [List.all_eq_true] at h
  rw [List.getD_eq_getElem?_getD, List.getElem?_eq_getElem hi]
  exact of_decide_eq_true (h _ (List.getElem_mem hi))

theorem shortV_no {recs : List (List Int)} {k : Nat} (hk : k < recs.length) (h : ¬ (recs.getD k []).length ≤ 8192) : shortV recs = false := by
  cases e : shortV recs with
  | false => rfl
  | true => exact absurd (shortV_get e k hk) h

theorem shortV_yes {recs : List (List Int)} (h : ∀ i, i < recs.length → (recs.getD i []).length ≤ 8192) : shortV recs = true := by
  unfold shortV
  rw [List.all_eq_true]
  intro y hy
  obtain ⟨i, hi, rfl⟩ := List.getElem_of_mem hy
  have := h i hi
  rw [List.getD_eq_getElem?_getD, List.getElem?_eq_getElem hi] at this
  exact decide_eq_true this

set_option maxRecDepth 20000 in
theorem long_any (q : Option Addr) (m d : Nat) (w : World) : Calls Tryz.prog 72 #[.slice q m d] w fun e w' => e = .returned (.bool (decide (8192 < m))) ∧ w' = w := by
  have hd : decide ((8192 : Int) < (m : Int)) = decide (8192 < m) := by
    by_cases h : 8192 < m
    · rw [decide_eq_true h, decide_eq_true (by omega)]
    · rw [decide_eq_false h, decide_eq_false (by omega)]
  go_enter Tryz.func72, Tryz.ntmps72
  go_wp2_with fail
  go_ret
  exact ⟨by simp, rfl⟩

set_option maxRecDepth 20000 in
set_option maxHeartbeats 2000000 in
theorem index_any (pr : Option Addr) (nr cr : Nat) (vs : List Value) (recs : List (List Int)) (w : World) (hv : RdV w pr nr cr vs) (hs : Sls w vs recs) (hnr : nr = recs.length) (hfew : nr ≤ 1000000) :
    Calls Tryz.prog 96 #[.slice pr nr cr, .func (.func 72) #[] #[]] w fun e w' => (∃ z : Int, e = .returned (.int .i64 z) ∧ decide (0 ≤ z) = !shortV recs) ∧ Below w.heap.size w w' := by
  have HN : Hid (nr = recs.length) := hnr
  clear hnr
  go_enter Tryz.func96, Tryz.ntmps96
  go_wp2_with fail
  go_loopw [8] (fun ix wr => ∃ k : Nat, k ≤ nr ∧ ix = .int .i64 k ∧ Hid (∀ i, i < k → (recs.getD i []).length ≤ 8192) ∧ wr = w) (fun ix _ => nr - (intOf ix).toNat)
  case atStart => exact ⟨0, Nat.zero_le _, rfl, fun _ h => absurd h (Nat.not_lt_zero _), rfl⟩
  case round =>
    obtain ⟨k, hk, rfl, HA, rfl⟩ := hrel
    by_cases hkn : k < nr
    · have hki : (k : Int) < (nr : Int) := by omega
      obtain ⟨bv, ov, hpe, hcv⟩ := hv.cells (by omega)
      subst hpe
      have hck := hcv k hkn
      obtain ⟨q0, m0, e0, hq0, hr0⟩ := hs.2 k (by rw [hv.len]; exact hkn)
      rw [hq0] at hck
      have hL := long_any q0 m0 e0 wr
      have hl0 := hr0.len
      clear hcv
      by_cases hm : 8192 < m0
      · rw [decide_eq_true hm] at hL
        have HB : Hid (shortV recs = false) := shortV_no (k := k) (by rw [← HN.out]; exact hkn) (by omega)
        go_wp2_with fail
        refine hL.mono ?_
        rintro e w1 ⟨rfl, hw⟩
        subst hw
        go_wp2_with fail
        go_ret
        refine ⟨⟨k, rfl, ?_⟩, Below.refl _ _⟩
        rw [HB.out, decide_eq_true (by omega)]
        rfl
      · rw [decide_eq_false hm] at hL
        have HA2 : Hid (∀ i, i < k + 1 → (recs.getD i []).length ≤ 8192) := fun i hi => by
          rcases Nat.lt_or_ge i k with h | h
          · exact HA.out i h
          · obtain rfl : i = k := by omega
            omega
        clear hl0 hr0 hq0
        go_wp2_with fail
        refine hL.mono ?_
        rintro e w1 ⟨rfl, hw⟩
        subst hw
        go_wp2_with fail
        go_roundw
        case rel => exact ⟨k + 1, by omega, by go_num, HA2, trivial⟩
        case measure => simp [intOf]; omega
    · have hki : ¬ (k : Int) < (nr : Int) := by omega
      have HB : Hid (shortV recs = true) := shortV_yes fun i hi => HA.out i (by rw [← HN.out] at hi; omega)
      go_wp2_with fail
      go_ret
      refine ⟨⟨-1, rfl, ?_⟩, Below.refl _ _⟩
      rw [HB.out]
      rfl

set_option maxRecDepth 20000 in
theorem contains_any (pr : Option Addr) (nr cr : Nat) (vs : List Value) (recs : List (List Int)) (w : World) (hv : RdV w pr nr cr vs) (hs : Sls w vs recs) (hnr : nr = recs.length) (hfew : nr ≤ 1000000) :
    Calls Tryz.prog 73 #[.slice pr nr cr, .func (.func 72) #[] #[]] w fun e w' => e = .returned (.bool (!shortV recs)) ∧ Below w.heap.size w w' := by
  have hI := index_any pr nr cr vs recs w hv hs hnr hfew
  clear hv hs hnr
  go_enter Tryz.func73, Tryz.ntmps73
  go_wp2_with fail
  refine hI.mono ?_
  rintro e w1 ⟨⟨z, rfl, hz⟩, hb⟩
  go_wp2_with fail
  go_ret
  exact ⟨by simp, hb⟩

/-- Does a reel have room for these? -/
def fitsR (nb : Nat) (recs : List (List Int)) : Bool := decide (nb ≤ 8176) && shortV recs

set_option maxRecDepth 20000 in
theorem fits_any (pb : Option Addr) (nb cb : Nat) (pr : Option Addr) (nr cr : Nat) (vs : List Value) (recs : List (List Int)) (w : World) (hv : RdV w pr nr cr vs) (hs : Sls w vs recs) (hnr : nr = recs.length) (hfew : nr ≤ 1000000) :
    Calls Tryz.prog 38 #[.slice pb nb cb, .slice pr nr cr] w fun e w' => e = .returned (.bool (fitsR nb recs)) ∧ Below w.heap.size w w' := by
  have hC := contains_any pr nr cr vs recs w hv hs hnr hfew
  clear hv hs hnr
  by_cases hn : nb ≤ 8176
  · have hd : decide ((nb : Int) ≤ 8176) = true := decide_eq_true (by omega)
    have HF : Hid (fitsR nb recs = shortV recs) := by show _ = _; unfold fitsR; rw [decide_eq_true hn, Bool.true_and]
    clear hn
    go_enter Tryz.func38, Tryz.ntmps38
    go_wp2_with fail
    refine hC.mono ?_
    rintro e w1 ⟨rfl, hb⟩
    go_wp2_with fail
    go_ret
    exact ⟨by rw [HF.out]; simp, hb⟩
  · have hd : decide ((nb : Int) ≤ 8176) = false := decide_eq_false (by omega)
    have HF : Hid (fitsR nb recs = false) := by show _ = _; unfold fitsR; rw [decide_eq_false hn, Bool.false_and]
    clear hn
    go_enter Tryz.func38, Tryz.ntmps38
    go_wp2_with fail
    go_ret
    exact ⟨by rw [HF.out]; rfl, Below.refl _ _⟩

end Go.Proofs.YtpjhadaiodnnaaaGreat.M
end

section
namespace Go.Proofs.YtpjhadaiodnnaaaGreat.M
open Go.ChangeShapes Go.WideShapes Go.ChangeAt Go.RowKit

set_option maxRecDepth 20000 in
theorem Arm_ok (w : World) (B : Nat) (own : Nat → Nat) (a g : Nat) (d : Dk) (m : PD) (h : DA w B own a g d m) (hr : 0 < m.room) (hw : m.down = false) (n : Nat) (hn : 1 ≤ n) (q : Option Addr) (l c : Nat) (ks : List Int) (hy : Rd .i64 w q l c ks) (hl : l ≤ 1099511627776) :
    Calls Tryz.prog 19 #[.pointer (some ⟨g, 0, none⟩), .int .i64 n, .slice q l c] w fun e w' => e = .returned (.int .i64 0) ∧ ∃ d2, DA w' B own a g d2 { m with left := n, keep := ks } ∧ Ch (fun k => k = g) w w' := by
  have hR := ready_any w g d h.dc (by rw [h.room]; exact hr)
  rw [h.down, hw] at hR
  have hb1 : Below w.heap.size w (w.alloc (.cells #[.int .i64 n, .slice q l c] 75)) := (Below.refl _ _).alloc (Nat.le_refl _) _
  have hC := fclone_any (w.alloc (.cells #[.int .i64 n, .slice q l c] 75)) w.heap.size n q l c ks (by simp) (by simp) (hy.below' hb1) hl
  have hlt := h.dc.lt
  have hcr := h.dc.room
  go_enter Tryz.func19, Tryz.ntmps19
  go_wp2_with fail
  refine hR.mono ?_
  rintro e w1 ⟨rfl, rfl⟩
  go_wp2_with fail
  refine hC.mono ?_
  rintro e w2 ⟨p', c', rfl, hrd, hb2, hfr⟩
  have hbt := hb1.trans (hb2.mono (by simp))
  have h2 := h.below hbt
  have hc26 := h2.dc.left
  have hf26 := h2.dc.free 26
  have hf27 := h2.dc.free 27
  have hd1 := h2.dc.setLeft n
  have hc27 := hd1.keep
  have hd2 := hd1.setKeep p' l c'
  have hc2 := Ch.cells2 w2 g 26 27 (.int .i64 n) (.slice p' l c')
  have hfin : DA ((w2.setCell ⟨g, 26, none⟩ (.int .i64 n)).setCell ⟨g, 27, none⟩ (.slice p' l c')) B own a g _ { m with left := n, keep := ks } :=
    DA.mend hc2 hd2 h2.room h2.down rfl h2.cl h2.fm hrd h2.og (fun x e => ⟨h.fr _ (Nat.le_trans hb1.size (hfr x e).1), (by have := Nat.le_trans hb1.size (hfr x e).1; omega), (hfr x e).2⟩) h2.bg h2.fr
  clear hC hR hd1 hd2 h2 hrd hfr h hb1 hb2 hy
  generalize d.left = dl at *
  generalize d.kp = dp at *
  generalize d.kn = dn at *
  generalize d.kc = dc at *
  go_wp2_with fail
  go_ret
  exact ⟨rfl, _, hfin, (Ch.of_below hbt _).trans hc2⟩

set_option maxRecDepth 20000 in
theorem Clear_ok (w : World) (B : Nat) (own : Nat → Nat) (a g : Nat) (d : Dk) (m : PD) (h : DA w B own a g d m) (hr : 0 < m.room) (hw : m.down = false) (hm : m.few) (i : Nat) (hi : i < 8) :
    Calls Tryz.prog 74 #[.pointer (some ⟨g, 0, none⟩), .int .i64 i] w fun e w' => e = .returned (.int .i64 (goneE (m.gone 1))) ∧ ∃ own2 d2, DA w' B own2 a g d2 (m.act 1 fun _ => upP m.f i ⟨[], (m.f i).lasts, true⟩) ∧ (∀ k, k < w.heap.size → own2 k = own k) ∧ Ch (fun k => k = g ∨ own k = mark a i) w w' := by
  have hF := file_ok w g d h.dc (by rw [h.room]; exact hr) (h.down.trans hw) i hi
  have hA1 := h.alloc (.cells #[.pointer (some ⟨g, 2 + i * 3, none⟩)] 101)
  have hbx : (w.alloc (.cells #[.pointer (some ⟨g, 2 + i * 3, none⟩)] 101)).cell? ⟨w.heap.size, 0, none⟩ = some (.pointer (some ⟨g, 2 + i * 3, none⟩)) := by simp
  have hne : w.heap.size ≠ g := Nat.ne_of_gt h.dc.lt
  have hsz : w.heap.size < (w.alloc (.cells #[.pointer (some ⟨g, 2 + i * 3, none⟩)] 101)).heap.size := by simp
  have hc0 : Ch (fun k => k = g ∨ own k = mark a i) w (w.alloc (.cells #[.pointer (some ⟨g, 2 + i * 3, none⟩)] 101)) := Ch.of_below ((Below.refl _ _).alloc (Nat.le_refl _) _) _
  have hact := act_any 97 cfClear #[.pointer (some ⟨w.heap.size, 0, none⟩)] (fun k => k = g ∨ own k = mark a i) _ B own a g d m hA1 (Or.inl rfl) 1 (fun _ => upP m.f i ⟨[], (m.f i).lasts, true⟩)
    (fun _ _ => upP_few hm i _ (by dsimp only; exact Nat.zero_le _)) (by have := hm.keep; omega) hm.left (fun w1 d1 m1 n1 hA hf _ hc => by
      have := clear1_any w1 B own a g d1 m1 hA i hi n1 w.heap.size (by rw [hc.cell (p := ⟨w.heap.size, 0, none⟩) hsz hne]; exact hbx)
      rw [hf] at this
      exact this)
  clear hA1 h hbx
  go_enter Tryz.func74, Tryz.ntmps74
  go_wp2_with fail
  refine hF.mono ?_
  rintro e w1 ⟨rfl, rfl⟩
  go_wp2_with fail
  refine hact.mono ?_
  rintro e w2 ⟨rfl, own2, d2, hA2, ho2, hc2⟩
  go_wp2_with fail
  go_ret
  exact ⟨rfl, own2, d2, hA2, fun k hk => ho2 k (Nat.lt_trans hk hsz), hc0.trans hc2⟩

end Go.Proofs.YtpjhadaiodnnaaaGreat.M
end

section
namespace Go.Proofs.YtpjhadaiodnnaaaGreat.M
open Go.ChangeShapes Go.WideShapes Go.ChangeAt Go.RowKit

set_option maxRecDepth 20000 in
theorem Read_O (w : World) (B : Nat) (own : Nat → Nat) (a g : Nat) (d : Dk) (m : PD) (h : DA w B own a g d m) (hr : 0 < m.room) (hw : m.down = false) (hm : m.few) (i : Nat) (hi : i < 8) :
    Calls Tryz.prog 31 #[.pointer (some ⟨g, 0, none⟩), .int .i64 i] w fun e w' => ∃ p' c', e = .returned (.tuple #[.slice p' (m.f i).told.length c', .int .i64 0]) ∧ Ow .u8 5 w' w.heap.size p' (m.f i).told.length c' (m.f i).told ∧ Below w.heap.size w w' := by
  have hF := file_ok w g d h.dc (by rw [h.room]; exact hr) (h.down.trans hw) i hi
  have hct := h.dc.told hi
  have htn := fl_tn h hi
  have hC := bcloneO _ _ _ _ w (h.fm i hi).told.rd (by rw [htn]; have := hm.told i hi; omega)
  rw [htn] at hC hct
  clear h htn
  generalize (m.f i).told = xs at *
  generalize hln : xs.length = n at *
  clear hln
  generalize d.fl i = fl at *
  obtain ⟨tp, tn, tc, lp, ln, lc, cl⟩ := fl
  dsimp only at *
  go_enter Tryz.func31, Tryz.ntmps31
  go_wp2_with fail
  refine hF.mono ?_
  rintro e w1 ⟨rfl, rfl⟩
  go_wp2_with fail
  refine hC.mono ?_
  rintro e w2 ⟨p', c', rfl, h1, h2⟩
  go_wp2_with fail
  go_ret2
  exact ⟨p', c', rfl, h1, h2⟩

/-- Without a fuse. -/
theorem act0 {m : PD} (h : m.left = 0) (n : Nat) (X : Nat → Nat → PF) : m.act n X = { m with f := X n } := by unfold PD.act; rw [if_pos h]

theorem gone0 {m : PD} (h : m.left = 0) (n : Nat) : goneE (m.gone n) = 0 := by
  unfold PD.gone goneE
  rw [decide_eq_false (by omega)]
  rfl

theorem few_up {m : PD} (h : m.few) (i : Nat) (x : PF) (h1 : x.told.length ≤ 549755813888) (h2 : x.lasts.length ≤ 549755813888) : ({ m with f := upP m.f i x } : PD).few :=
  ⟨fun j hj => by
    show (upP m.f i x j).told.length ≤ _
    unfold upP
    split
    · exact h1
    · exact h.told j hj, fun j hj => by
    show (upP m.f i x j).lasts.length ≤ _
    unfold upP
    split
    · exact h2
    · exact h.lasts j hj, h.keep, h.left⟩

theorem upP_up (f : Nat → PF) (i : Nat) (x y : PF) : upP (upP f i x) i y = upP f i y := by
  funext k
  unfold upP
  split <;> rfl

theorem Ch.then {S T : Nat → Prop} {a b c : World} (h : Ch S a b) (k : Ch T b c) (hs : ∀ j, j < a.heap.size → T j → S j) : Ch S a c :=
  ⟨k.os.trans h.os, k.tape.trans h.tape, k.output.trans h.output, Nat.le_trans h.size k.size, fun j hj hn => (k.block j (Nat.lt_of_lt_of_le hj h.size) (fun e => hn (hs j hj e))).trans (h.block j hj hn)⟩

set_option maxRecDepth 20000 in
set_option maxHeartbeats 2000000 in
theorem write_ok (w : World) (B : Nat) (own : Nat → Nat) (a g : Nat) (d : Dk) (m : PD) (h : DA w B own a g d m) (hr : 0 < m.room) (hrm : m.room ≤ 4194304) (hw : m.down = false) (hm : m.few) (hleft : m.left = 0) (hB : B ≤ w.heap.size) (i : Nat) (hi : i < 8)
    (gt : Nat) (hT : w.cell? ⟨gt, 0, none⟩ = some (.pointer (some ⟨g, 0, none⟩))) (hgo : own gt ≠ mark a i) (hgg : gt ≠ g)
    (p : Option Addr) (n c : Nat) (bs : List Int) (hb : Rd .u8 w p n c bs) (hbo : ∀ x, p = some x → 0 < n → own x.block ≠ mark a i ∧ x.block ≠ g) (hl : n ≤ 549755813888) (hu : ({ m with f := upP m.f i ⟨[], (m.f i).lasts, true⟩ } : PD).used + n ≤ m.room) :
    Calls Tryz.prog 40 #[.pointer (some ⟨gt, 0, none⟩), .int .i64 i, .slice p n c] w fun e w' => e = .returned (.int .i64 0) ∧ ∃ own2 d2, DA w' B own2 a g d2 { m with f := upP m.f i ⟨bs, bs, false⟩ } ∧ (∀ k, k < w.heap.size → own2 k = own k) ∧ Ch (fun k => k = g ∨ own k = mark a i) w w' := by
  have hC := Clear_ok w B own a g d m h hr hw hm i hi
  rw [act0 hleft, gone0 hleft] at hC
  have hgl : gt < w.heap.size := World.block_lt_of_cell? _ _ hT
  have hnS : ∀ k, own k ≠ mark a i → k ≠ g → ¬ (k = g ∨ own k = mark a i) := fun k h1 h2 e => e.elim h2 h1
  go_enter Tryz.func40, Tryz.ntmps40
  go_wp2_with fail
  refine hC.mono ?_
  rintro e w1 ⟨rfl, own1, d1, h1, ho1, hc1⟩
  have hT1 : w1.cell? ⟨gt, 0, none⟩ = some (.pointer (some ⟨g, 0, none⟩)) := (hc1.cell hgl (hnS gt hgo hgg)).trans hT
  have hb1 : Rd .u8 w1 p n c bs := hb.ch0 hc1 fun x e h0 => hnS _ (hbo x e h0).1 (hbo x e h0).2
  have hA := Append_gen w1 B own1 a g d1 _ h1 hr hw (few_up hm i _ (Nat.zero_le _) (hm.lasts i hi)) (Nat.le_trans hB hc1.size) i hi p n c bs hb1 (fun x e h0 => (hbo x e h0).2) hl hu hrm
  rw [act0 (show ({ m with f := upP m.f i ⟨[], (m.f i).lasts, true⟩ } : PD).left = 0 from hleft), gone0 (show ({ m with f := upP m.f i ⟨[], (m.f i).lasts, true⟩ } : PD).left = 0 from hleft)] at hA
  clear hC
  go_wp2_with fail
  refine hA.mono ?_
  rintro e w2 ⟨rfl, own2, d2, h2, ho2, hc2⟩
  have hcc2 := hc1.then hc2 (fun j hj e => e.imp id (fun e => by rw [← ho1 j hj]; exact e))
  have ho2' : ∀ k, k < w.heap.size → own2 k = own k := fun k hk => (ho2 k (Nat.lt_of_lt_of_le hk hc1.size)).trans (ho1 k hk)
  have hT2 : w2.cell? ⟨gt, 0, none⟩ = some (.pointer (some ⟨g, 0, none⟩)) := (hcc2.cell hgl (hnS gt hgo hgg)).trans hT
  have hbl := hb.len
  have htk : bs.take n = bs := List.take_of_length_le (by omega)
  rw [upP_same, htk, upP_up] at h2
  dsimp only at h2
  rw [List.nil_append] at h2
  have hS := Sync_ok w2 B own2 a g d2 _ h2 hr hw (few_up hm i _ (by rw [hbl]; exact hl) (hm.lasts i hi)) i hi
  rw [act0 (show ({ m with f := upP m.f i ⟨bs, (m.f i).lasts, true⟩ } : PD).left = 0 from hleft), gone0 (show ({ m with f := upP m.f i ⟨bs, (m.f i).lasts, true⟩ } : PD).left = 0 from hleft)] at hS
  clear hA hc2 ho2
  go_wp2_with fail
  refine hS.mono ?_
  rintro e w3 ⟨rfl, own3, d3, h3, ho3, hc3⟩
  have hcc3 := hcc2.then hc3 (fun j hj e => e.imp id (fun e => by rw [← ho2' j hj]; exact e))
  rw [upP_same, upP_up] at h3
  dsimp only at h3
  clear hS
  go_wp2_with fail
  go_ret
  exact ⟨rfl, own3, d3, h3, fun k hk => (ho3 k (Nat.lt_of_lt_of_le hk hcc2.size)).trans (ho2' k hk), hcc3⟩

/-- Some mark that is no file's. -/
def farM : Nat := 1000

/-- A disk's marks, as another list of marks has them. -/
theorem DA.reown {w : World} {B : Nat} {own own' : Nat → Nat} {a g : Nat} {d : Dk} {m : PD} (h : DA w B own a g d m) (ho : ∀ k, own k = mark a 0 ∨ own k = mark a 1 ∨ own k = mark a 2 ∨ own k = mark a 3 ∨ own k = mark a 4 ∨ own k = mark a 5 ∨ own k = mark a 6 ∨ own k = mark a 7 → own' k = own k) (hg : own' g = 0) (hk : ∀ x, d.kp = some x → own' x.block = 0) (hf : ∀ k, w.heap.size ≤ k → own' k = 0) : DA w B own' a g d m := by
  have ho' : ∀ i k, i < 8 → own k = mark a i → own' k = mark a i := fun i k hi e => by
    rw [ho k ?_, e]
    match i, hi with
    | 0, _ => exact Or.inl e
    | 1, _ => exact Or.inr (Or.inl e)
    | 2, _ => exact Or.inr (Or.inr (Or.inl e))
    | 3, _ => exact Or.inr (Or.inr (Or.inr (Or.inl e)))
    | 4, _ => exact Or.inr (Or.inr (Or.inr (Or.inr (Or.inl e))))
    | 5, _ => exact Or.inr (Or.inr (Or.inr (Or.inr (Or.inr (Or.inl e)))))
    | 6, _ => exact Or.inr (Or.inr (Or.inr (Or.inr (Or.inr (Or.inr (Or.inl e))))))
    | 7, _ => exact Or.inr (Or.inr (Or.inr (Or.inr (Or.inr (Or.inr (Or.inr e))))))
    | k + 8, h => exact absurd h (by omega)
  exact ⟨h.dc, h.room, h.down, h.left, h.cl, fun i hi => ⟨(h.fm i hi).told, (h.fm i hi).lasts, fun x e => ho' i _ hi ((h.fm i hi).tg x e), fun x e => ho' i _ hi ((h.fm i hi).lg x e), (h.fm i hi).begins, (h.fm i hi).apart⟩, h.keep, hg, fun x e => ⟨hk x e, (h.ok x e).2.1, (h.ok x e).2.2⟩, h.bg, hf⟩

/-- All blocks from lo to hi are marked as another's. -/
def farO (own : Nat → Nat) (lo hi : Nat) : Nat → Nat := fun k => if lo ≤ k ∧ k < hi then farM else own k

theorem farO_low {own : Nat → Nat} {lo hi k : Nat} (h : k < lo) : farO own lo hi k = own k := if_neg (by omega)
theorem farO_in {own : Nat → Nat} {lo hi k : Nat} (h : lo ≤ k) (h2 : k < hi) : farO own lo hi k = farM := if_pos ⟨h, h2⟩

theorem far_mark {a i : Nat} (ha : a ≤ 100) (hi : i < 8) : farM ≠ mark a i := by unfold farM mark; omega

/-- What was made since is marked as another's. -/
theorem DA.marked {w w' : World} {B : Nat} {own : Nat → Nat} {a g : Nat} {d : Dk} {m : PD} (h : DA w B own a g d m) (hb : Below w.heap.size w w') : DA w' B (farO own w.heap.size w'.heap.size) a g d m := by
  have hgl : g < w.heap.size := h.dc.lt
  refine (h.below hb).reown (fun k e => ?_) ?_ (fun x e => ?_) (fun k hk => ?_)
  · unfold farO
    rw [if_neg]
    intro hk
    have h0 := h.fr k hk.1
    rw [h0] at e
    unfold mark at e
    omega
  · rw [farO_low hgl]; exact h.og
  · rw [farO_low (h.ok x e).2.2]; exact (h.ok x e).1
  · unfold farO
    rw [if_neg (by omega)]
    exact h.fr k (Nat.le_trans hb.size hk)

/-- A block of another's is written. -/
theorem DA.exF {w w' : World} {B : Nat} {own : Nat → Nat} {a g gt : Nat} {d : Dk} {m : PD} (ha : a ≤ 100) (h : DA w B own a g d m) (he : Ex gt w w') (hf : own gt = farM) (hg : gt ≠ g) : DA w' B own a g d m :=
  h.ch (S := fun k => k = gt) ⟨he.os, he.tape, he.output, he.size, fun k hk hn => he.block k hk hn⟩ (fun e => hg e.symm) (fun i k hi e e2 => far_mark ha hi (by rw [← hf, ← e2, e])) (fun x e e2 => by have h1 := (h.ok x e).1; have e3 : x.block = gt := e2; rw [e3, hf] at h1; cases h1) (fun _ _ => rfl) (fun k hk => h.fr k (Nat.le_trans he.size hk))

end Go.Proofs.YtpjhadaiodnnaaaGreat.M
end

section
namespace Go.Proofs.YtpjhadaiodnnaaaGreat.M
open Go.ChangeShapes Go.WideShapes Go.ChangeAt Go.RowKit
set_option linter.unusedSimpArgs false

theorem OwG.chC {e : TypeId} {S : Nat → Prop} {w w' : World} {B n c : Nat} {p : Option Addr} {vs : List Value} (h : OwG e w B p n c vs) (hc : Ch S w w') (hs : ∀ x, p = some x → 0 < c → ¬ S x.block) : OwG e w' B p n c vs := by
  refine ⟨⟨h.rd.len, h.rd.cap, h.rd.nil, fun hn => ?_⟩, fun h0 => ?_⟩
  · obtain ⟨b, o, e1, hcl⟩ := h.rd.cells hn
    have hcap := h.rd.cap
    refine ⟨b, o, e1, fun i hi => ?_⟩
    have h1 := hcl i hi
    rw [hc.cell (p := ⟨b, o + i, none⟩) (World.block_lt_of_cell? _ _ h1) (show ¬ S b from hs _ e1 (by omega))]
    exact h1
  · obtain ⟨b, o, cur, e1, hB, hA, hl⟩ := h.own h0
    exact ⟨b, o, cur, e1, hB, (hc.block b hA.lt (hs _ e1 h0)).trans hA, hl⟩

section
variable {P : Program} (w : World)

/-- append(s, x): s with a row of its owner's (or without room), x one value: the row grows in its place, or it is a new one. -/
theorem run_appG (t ty e : TypeId) (i : TypeInfo) (z : Value) (by_ : Nat) (ht : P.underlying t = some (.slice e)) (hi : P.info? e = some i) (hz : i.zero = some z) (hsize : i.size = 1) (hby : i.bytes = by_) (hzs : z.cells.size = 1)
    {B : Nat} {p : Option Addr} {n c : Nat} {vs : List Value} {x : Value} {b o d : Nat} (ho : OwG e w B p n c vs) (hx : w.cell? ⟨b, o, none⟩ = some x) (h1 : x.oneCell' = true) (hb : (n + 1) * by_ ≤ 140737488355328) (h63 : n + 1 ≤ maxLen) (hB : B ≤ w.heap.size) :
    ∃ p' c' w', (Builtin.append_ #[t, t] ty #[.slice p n c, .slice (some ⟨b, o, none⟩) 1 d]).run P w = .ok (.slice p' (n + 1) c') w' ∧ OwG e w' B p' (n + 1) c' (vs ++ [x]) ∧ (Grow w w' p c p' c' ∧ (c = 0 → w.grownBy w' none)) ∧ Kept e w w' := by
  have hn : ∀ j u, [x][j]? = some u → w.cell? ((⟨b, o, none⟩ : Addr).add j) = some u := by
    intro j u hj
    rw [Addr.add_lit]
    match j, hj with
    | 0, hj => cases hj; exact hx
    | j + 1, hj => cases hj
  have hl : [x].length = 1 * 1 := rfl
  have h1' : ∀ u ∈ [x], u.oneCell' = true := fun u hu => by rw [List.mem_singleton] at hu; rw [hu]; exact h1
  have fin : ∀ B' v' w', w'.ownsRow B' e 1 v' (n + 1) (vs ++ [x]) → ∃ p' c', v' = .slice p' (n + 1) c' ∧ OwV e w' B' p' (n + 1) c' (vs ++ [x]) := by
    intro B' v' w' h
    exact OwV.of_owns h (by rw [List.length_append, ho.len]; rfl) (by omega)
  have new : ∀ v' w', w'.ownsRow w.heap.size e 1 v' (n + 1) (vs ++ [x]) → w.grownBy w' none → ∃ p' c', v' = .slice p' (n + 1) c' ∧ OwG e w' B p' (n + 1) c' (vs ++ [x]) ∧ (Grow w w' p c p' c' ∧ (c = 0 → w.grownBy w' none)) ∧ Kept e w w' := by
    intro v' w' h hg
    obtain ⟨p', c', rfl, h4⟩ := fin _ v' w' h
    refine ⟨p', c', rfl, h4.g.lowerB hB, ⟨Or.inr ⟨hg, fun a ha => ?_⟩, fun _ => hg⟩, kept_of hg (fun g hg => by cases hg)⟩
    subst ha
    exact (h.lt a.block rfl).1
  have hcap := ho.cap
  have hlen := ho.len
  rcases Nat.lt_or_ge c (n + 1) with hlt | hge
  · cases p with
    | none =>
      obtain rfl : c = 0 := ho.rd.nil rfl
      obtain rfl : n = 0 := by omega
      obtain rfl : vs = [] := List.length_eq_zero_iff.1 hlen
      obtain ⟨v', w', h1, h2, h3, _⟩ := run_append_own (P := P) w w.heap.size t ty e i z 1 by_ ht hi hz hsize hby hzs (by decide) _ 0 [] (World.ownsRow_nil _ _ _ _) ⟨b, o, none⟩ 1 d _ hl hn h1' h63 hb (Nat.le_refl _)
      obtain ⟨p', c', rfl, h4, h5⟩ := new v' w' h2 h3
      exact ⟨p', c', w', h1, h4, h5⟩
    | some pa =>
      have holds : ∀ j u, vs[j]? = some u → w.cell? (pa.add j) = some u := fun j u hj => by
        have hj' : j < vs.length := by
          rcases Nat.lt_or_ge j vs.length with h | h
          · exact h
          · rw [List.getElem?_eq_none h] at hj; cases hj
        obtain ⟨b2, o2, e2, hcl⟩ := ho.rd.cells (by omega)
        cases e2
        rw [Addr.add_lit, hcl j (by omega), List.getD_eq_getElem?_getD, hj]
        rfl
      obtain ⟨v', w', h1, h2, h3⟩ := run_append_arg_grows (P := P) w t ty e i z 1 by_ ht hi hz hsize hby hzs (by decide) pa n c vs (by rw [hlen, Nat.mul_one]) holds ⟨b, o, none⟩ 1 d _ hl hn hlt h63 hb
      obtain ⟨p', c', rfl, h4, h5⟩ := new v' w' h2 h3
      exact ⟨p', c', w', h1, h4, h5⟩
  · obtain ⟨b2, o2, cur, rfl, hB2, hA, hcs⟩ := ho.own (by omega)
    have hr := run_append_room_cells (P := P) w t ty e i ht hi b2 o2 n c ⟨b, o, none⟩ 1 d [x] (by rw [hsize]; rfl) hn h1' hge (fun j hj => by
      have hj0 : j = 0 := by have : [x].length = 1 := rfl; omega
      rw [hj0, hA.cell, hsize, Nat.mul_one, Nat.add_zero, Array.getElem?_eq_getElem (by omega)]
      rfl) (fun j _ => hA.free _)
    rw [hsize, Nat.mul_one] at hr
    have hw : w.setCells b2 (o2 + n) [x] = w.setCell ⟨b2, o2 + n, none⟩ x := rfl
    rw [hw] at hr
    have hA' : At e (w.setCell ⟨b2, o2 + n, none⟩ x) b2 (cur.setIfInBounds (o2 + n) x) := heap_setCell_same w b2 (o2 + n) cur e x hA
    have hE : Ex b2 w (w.setCell ⟨b2, o2 + n, none⟩ x) := (Ex.refl b2 w).setCell (o2 + n) x
    have hG : w.grownBy (w.setCell ⟨b2, o2 + n, none⟩ x) (some b2) := hE.grown
    refine ⟨_, _, _, hr, ⟨⟨by rw [List.length_append, hlen]; rfl, hge, (fun e => by cases e), fun _ => ⟨b2, o2, rfl, fun j hj => ?_⟩⟩, fun _ => ⟨b2, o2, _, rfl, hB2, hA', by rw [Array.size_setIfInBounds]; exact hcs⟩⟩, ⟨Or.inl ⟨rfl, rfl, hG⟩, fun e => absurd e (by omega)⟩, kept_of hG (fun k hk => by cases hk; exact ⟨cur, _, hA⟩)⟩
    rw [hA'.cell]
    by_cases hjn : j < n
    · rw [Array.getElem?_setIfInBounds_ne (by omega)]
      obtain ⟨b3, o3, e3, hcl⟩ := ho.rd.cells (by omega)
      cases e3
      have h2 := hcl j hjn
      rw [hA.cell] at h2
      rw [h2, List.getD_eq_getElem?_getD, List.getD_eq_getElem?_getD, List.getElem?_append_left (by omega)]
    · obtain rfl : j = n := by omega
      rw [Array.getElem?_setIfInBounds_self, if_pos (by omega), List.getD_eq_getElem?_getD, List.getElem?_append_right (by omega), hlen, Nat.sub_self]
      rfl

end

end Go.Proofs.YtpjhadaiodnnaaaGreat.M
end

section
namespace Go.Proofs.YtpjhadaiodnnaaaGreat.M
open Go.ChangeShapes Go.WideShapes Go.ChangeAt Go.RowKit
set_option linter.unusedSimpArgs false

/-- A tape: which file counts, how many records last, the reel. -/
structure TP where
  file : Nat
  kept : Nat
  r : PR

/-- No block of the disk, and marked so. -/
def Fre (own : Nat → Nat) (g : Nat) (k : Nat) : Prop := own k = farM ∧ k ≠ g

/-- A tape in block gt, over the disk in block g. -/
structure TB (w : World) (own : Nat → Nat) (g gt : Nat) (t : TP) (pb : Option Addr) (nb cb : Nat) (pr : Option Addr) (cr : Nat) (vs : List Value) : Prop where
  blk : At 81 w gt #[.pointer (some ⟨g, 0, none⟩), .int .i64 t.file, .int .i64 t.kept, .int .i64 t.r.gen, .slice pb nb cb, .slice pr t.r.recs.length cr]
  fg : Fre own g gt
  bas : Rd .u8 w pb nb cb t.r.base
  fb : ∀ x, pb = some x → 0 < nb → Fre own g x.block
  rcs : RdV w pr t.r.recs.length cr vs
  fv : ∀ x, pr = some x → 0 < t.r.recs.length → Fre own g x.block
  sls : Sls w vs t.r.recs
  fs : ∀ i q m d, i < vs.length → vs.getD i undef = .slice q m d → ∀ x, q = some x → 0 < m → Fre own g x.block
  nb : ∀ x, pb = some x → 0 < nb → x.block ≠ gt
  nv : ∀ x, pr = some x → 0 < t.r.recs.length → x.block ≠ gt
  ns : ∀ i q m d, i < vs.length → vs.getD i undef = .slice q m d → ∀ x, q = some x → 0 < m → x.block ≠ gt

theorem RdV.ch0 {S : Nat → Prop} {w w' : World} {p : Option Addr} {n c : Nat} {vs : List Value} (h : RdV w p n c vs) (hc : Ch S w w') (hs : ∀ a, p = some a → 0 < n → ¬ S a.block) : RdV w' p n c vs :=
  ⟨h.len, h.cap, h.nil, fun hn => by
    obtain ⟨b, o, e, hcl⟩ := h.cells hn
    refine ⟨b, o, e, fun i hi => ?_⟩
    have h1 := hcl i hi
    rw [hc.cell (p := ⟨b, o + i, none⟩) (World.block_lt_of_cell? _ _ h1) (show ¬ S b from hs _ e hn)]
    exact h1⟩

theorem Sls.ch0 {S : Nat → Prop} {w w' : World} {vs : List Value} {xss : List (List Int)} (h : Sls w vs xss) (hc : Ch S w w') (hs : ∀ i q m d, i < vs.length → vs.getD i undef = .slice q m d → ∀ x, q = some x → 0 < m → ¬ S x.block) : Sls w' vs xss :=
  ⟨h.1, fun i hi => by
    obtain ⟨q, m, d, e, hr⟩ := h.2 i hi
    exact ⟨q, m, d, e, hr.ch0 hc (hs i q m d hi e)⟩⟩

theorem Fre.not {own : Nat → Nat} {g k a i : Nat} (h : Fre own g k) (ha : a ≤ 100) (hi : i < 8) : ¬ (k = g ∨ own k = mark a i) := fun e => e.elim h.2 (fun e => far_mark ha hi (by rw [← e, h.1]))

theorem At.ch {t : TypeId} {S : Nat → Prop} {w w' : World} {g : Nat} {cs : Array Value} (h : At t w g cs) (hc : Ch S w w') (hs : ¬ S g) : At t w' g cs := (hc.block g h.lt hs).trans h

/-- A tape beside what its disk does. -/
theorem TB.ch {w w' : World} {own own2 : Nat → Nat} {a i g gt : Nat} {t : TP} {pb : Option Addr} {nb cb : Nat} {pr : Option Addr} {cr : Nat} {vs : List Value} (ha : a ≤ 100) (hi : i < 8) (h : TB w own g gt t pb nb cb pr cr vs) (hc : Ch (fun k => k = g ∨ own k = mark a i) w w') (ho : ∀ k, k < w.heap.size → own2 k = own k) : TB w' own2 g gt t pb nb cb pr cr vs := by
  have hlb : ∀ x, pb = some x → 0 < nb → x.block < w.heap.size := fun x e h0 => by
    obtain ⟨b, o, e2, hcl⟩ := h.bas.cells h0
    rw [e] at e2
    cases e2
    exact World.block_lt_of_cell? _ _ (hcl 0 h0)
  have hlv : ∀ x, pr = some x → 0 < t.r.recs.length → x.block < w.heap.size := fun x e h0 => by
    obtain ⟨b, o, e2, hcl⟩ := h.rcs.cells h0
    rw [e] at e2
    cases e2
    exact World.block_lt_of_cell? _ _ (hcl 0 h0)
  have hls : ∀ i q m d, i < vs.length → vs.getD i undef = .slice q m d → ∀ x, q = some x → 0 < m → x.block < w.heap.size := fun j q m d hj e x ex h0 => by
    obtain ⟨q', m', d', e', hr⟩ := h.sls.2 j hj
    rw [e] at e'
    cases e'
    obtain ⟨b, o, e2, hcl⟩ := hr.cells h0
    rw [ex] at e2
    cases e2
    exact World.block_lt_of_cell? _ _ (hcl 0 h0)
  exact ⟨h.blk.ch hc (h.fg.not ha hi), ⟨(ho gt h.blk.lt).trans h.fg.1, h.fg.2⟩, h.bas.ch0 hc (fun x e h0 => (h.fb x e h0).not ha hi), (fun x e h0 => ⟨(ho _ (hlb x e h0)).trans (h.fb x e h0).1, (h.fb x e h0).2⟩), h.rcs.ch0 hc (fun x e h0 => (h.fv x e h0).not ha hi), (fun x e h0 => ⟨(ho _ (hlv x e h0)).trans (h.fv x e h0).1, (h.fv x e h0).2⟩), h.sls.ch0 hc (fun j q m d hj e x ex h0 => (h.fs j q m d hj e x ex h0).not ha hi), fun j q m d hj e x ex h0 => ⟨(ho _ (hls j q m d hj e x ex h0)).trans (h.fs j q m d hj e x ex h0).1, (h.fs j q m d hj e x ex h0).2⟩, h.nb, h.nv, h.ns⟩

theorem TB.below {w w' : World} {own : Nat → Nat} {g gt : Nat} {t : TP} {pb : Option Addr} {nb cb : Nat} {pr : Option Addr} {cr : Nat} {vs : List Value} (h : TB w own g gt t pb nb cb pr cr vs) (hb : Below w.heap.size w w') : TB w' own g gt t pb nb cb pr cr vs :=
  ⟨h.blk.below hb, h.fg, h.bas.below hb, h.fb, h.rcs.below hb, h.fv, h.sls.below hb, h.fs, h.nb, h.nv, h.ns⟩

/-- A tape whose bytes and records are its own, from block Bv on. -/
structure TO (w : World) (own : Nat → Nat) (Bv g gt : Nat) (t : TP) (pb : Option Addr) (nb cb : Nat) (pr : Option Addr) (cr : Nat) (vs : List Value) : Prop where
  bas : Ow .u8 5 w Bv pb nb cb t.r.base
  fb : ∀ x, pb = some x → 0 < cb → Fre own g x.block ∧ x.block ≠ gt
  rcs : OwG 40 w Bv pr t.r.recs.length cr vs
  fv : ∀ x, pr = some x → 0 < cr → Fre own g x.block ∧ x.block ≠ gt
  sls : Slo 5 w Bv vs t.r.recs
  fs : ∀ i q m d, i < vs.length → vs.getD i undef = .slice q m d → ∀ x, q = some x → 0 < d → Fre own g x.block ∧ x.block ≠ gt

theorem TO.tb {w : World} {own : Nat → Nat} {Bv g gt : Nat} {t : TP} {pb : Option Addr} {nb cb : Nat} {pr : Option Addr} {cr : Nat} {vs : List Value} (h : TO w own Bv g gt t pb nb cb pr cr vs) (hb : At 81 w gt #[.pointer (some ⟨g, 0, none⟩), .int .i64 t.file, .int .i64 t.kept, .int .i64 t.r.gen, .slice pb nb cb, .slice pr t.r.recs.length cr]) (hg : Fre own g gt) : TB w own g gt t pb nb cb pr cr vs :=
  have hf : ∀ i q m d, i < vs.length → vs.getD i undef = .slice q m d → ∀ x, q = some x → 0 < m → Fre own g x.block ∧ x.block ≠ gt := fun i q m d hi e x ex h0 => by
    obtain ⟨q', m', d', e', hr⟩ := h.sls.2 i hi
    rw [e] at e'
    cases e'
    exact h.fs i q m d hi e x ex (Nat.lt_of_lt_of_le h0 hr.cap)
  ⟨hb, hg, h.bas.rd, fun x e h0 => (h.fb x e (Nat.lt_of_lt_of_le h0 h.bas.cap)).1, h.rcs.rd, fun x e h0 => (h.fv x e (Nat.lt_of_lt_of_le h0 h.rcs.cap)).1, h.sls.sls, fun i q m d hi e x ex h0 => (hf i q m d hi e x ex h0).1, fun x e h0 => (h.fb x e (Nat.lt_of_lt_of_le h0 h.bas.cap)).2, fun x e h0 => (h.fv x e (Nat.lt_of_lt_of_le h0 h.rcs.cap)).2, fun i q m d hi e x ex h0 => (hf i q m d hi e x ex h0).2⟩

/-- A tape whose own words are changed. -/
theorem TB.put {w w' : World} {own : Nat → Nat} {g gt : Nat} {t : TP} {pb : Option Addr} {nb cb : Nat} {pr : Option Addr} {cr : Nat} {vs : List Value} (h : TB w own g gt t pb nb cb pr cr vs) (he : Ex gt w w') (file kept : Nat) (ha : At 81 w' gt #[.pointer (some ⟨g, 0, none⟩), .int .i64 file, .int .i64 kept, .int .i64 t.r.gen, .slice pb nb cb, .slice pr t.r.recs.length cr]) : TB w' own g gt ⟨file, kept, t.r⟩ pb nb cb pr cr vs :=
  have hc : Ch (fun k => k = gt) w w' := ⟨he.os, he.tape, he.output, he.size, fun k hk hn => he.block k hk hn⟩
  ⟨ha, h.fg, h.bas.ch0 hc h.nb, h.fb, h.rcs.ch0 hc h.nv, h.fv, h.sls.ch0 hc h.ns, h.fs, h.nb, h.nv, h.ns⟩

set_option maxRecDepth 20000 in
theorem tmade_yes (w : World) (gt g : Nat) (h0 : w.cell? ⟨gt, 0, none⟩ = some (.pointer (some ⟨g, 0, none⟩))) : Calls Tryz.prog 35 #[.pointer (some ⟨gt, 0, none⟩)] w fun e w' => e = .returned (.bool true) ∧ w' = w := by
  go_enter Tryz.func35, Tryz.ntmps35
  go_wp2_with fail
  go_ret
  exact ⟨rfl, rfl⟩

set_option maxRecDepth 20000 in
theorem other_any (w : World) (gt file : Nat) (hf : file ≤ 1) (h1 : w.cell? ⟨gt, 1, none⟩ = some (.int .i64 file)) : Calls Tryz.prog 41 #[.pointer (some ⟨gt, 0, none⟩)] w fun e w' => e = .returned (.int .i64 ((1 - file : Nat) : Int)) ∧ w' = w := by
  have hw : IntKind.i64.wrap (1 - (file : Int)) = ((1 - file : Nat) : Int) := by rw [IntKind.wrap_i64]; omega
  go_enter Tryz.func41, Tryz.ntmps41
  go_wp2_with fail
  go_ret
  exact ⟨by simp [hw], rfl⟩

theorem wp_store_one {P : Program} {op : Oper} {a : Act} {w : World} {K : Act → World → Prop} {Q : Exit → Act → World → Prop} (ty : TypeId) (x y : Operand) (ho : op.op = .store ty x y) (b o : Nat) (v : Value) (hv : v.cells = #[v]) (hv1 : v.oneCell' = true) (u : Value)
    (hx : a.eval x = .pointer (some ⟨b, o, none⟩)) (hy : a.eval y = v) (hsz : (P.info? ty).map (·.size) = some 1) (hc : w.cell? ⟨b, o, none⟩ = some u) (hf : w.frozen? ⟨b, o, none⟩ = false)
    (h : K (a.put op.dst undef) (w.setCell ⟨b, o, none⟩ v)) : op.wp P a w K Q := by
  have hrun : (storeVar ty ⟨b, o, none⟩ v).run P w = .ok () (w.setCell ⟨b, o, none⟩ v) := by
    have := run_storeCells_cells (P := P) b o [v] 0 w (fun j hj => by
        match j, hj with
        | 0, _ => rw [Nat.add_zero, hc]; rfl) (fun j hj => by
        match j, hj with
        | 0, _ => exact hf) (fun u hu => by rw [List.mem_singleton.1 hu]; exact hv1)
    cases hq : P.info? ty with
    | none => simp [hq] at hsz
    | some i =>
      have hs : i.size = 1 := by simpa [hq] using hsz
      simp only [Nat.add_zero] at this
      simp [storeVar, sizeOf, typeInfo, hq, hv, hs, this, World.setCells]
  unfold Oper.wp execOp
  simp only [ho, hx, hy, Instr.storeAt, Instr.sureAddr, Sem.run_bind, Sem.run_pure, Result.andThen_ok, hrun]
  exact h

theorem sizeI : (Tryz.prog.info? 3).map (·.size) = some 1 := by kernel_rfl

theorem At.put345 {t : TypeId} {w : World} {g : Nat} {a b c x y z : Value} (h : At t w g #[a, b, c, x, y, z]) (x' y' z' : Value) : At t (((w.setCell ⟨g, 3, none⟩ x').setCell ⟨g, 4, none⟩ y').setCell ⟨g, 5, none⟩ z') g #[a, b, c, x', y', z'] := by
  have h1 := heap_setCell_same w g 3 _ _ x' h
  have h2 := heap_setCell_same _ g 4 _ _ y' h1
  exact heap_setCell_same _ g 5 _ _ z' h2

/-- While a tape is given its next reel. -/
structure Sv (w6 : World) (gt gb : Nat) (cs : Array Value) (gen : Int) (qb : Option Addr) (mb db : Nat) (qr : Option Addr) (nr dr : Nat) (W : World) : Prop where
  at0 : At 81 W gt cs
  bx : At 79 W gb #[.int .i64 gen, .slice qb mb db, .slice qr nr dr]
  ex : Ex gt w6 W

theorem Sv.stays (w6 : World) (gt gb : Nat) (cs : Array Value) (gen : Int) (qb : Option Addr) (mb db : Nat) (qr : Option Addr) (nr dr : Nat) : Stays (Sv w6 gt gb cs gen qb mb db qr nr dr) := fun _ _ h hb => ⟨h.at0.below hb, h.bx.below hb, h.ex.trans (Ex.of_below hb)⟩

theorem Sv.rg {w6 : World} {gt gb : Nat} {cs : Array Value} {gen : Int} {qb : Option Addr} {mb db : Nat} {qr : Option Addr} {nr dr : Nat} {W : World} (h : Sv w6 gt gb cs gen qb mb db qr nr dr W) : W.rangeAt gb 0 [.int .i64 gen, .slice qb mb db, .slice qr nr dr] := fun j u hu => by
  rw [Nat.zero_add]
  match j, hu with
  | 0, hu => cases hu; exact h.bx.cell 0
  | 1, hu => cases hu; exact h.bx.cell 1
  | 2, hu => cases hu; exact h.bx.cell 2

theorem Sv.put {w6 : World} {gt gb : Nat} {cs cs' : Array Value} {gen : Int} {qb : Option Addr} {mb db : Nat} {qr : Option Addr} {nr dr : Nat} {V V' : World} (h : Sv w6 gt gb cs gen qb mb db qr nr dr V) (hE : Ex gt V V') (ha : At 81 V' gt cs') (hne : gb ≠ gt) : Sv w6 gt gb cs' gen qb mb db qr nr dr V' :=
  ⟨ha, h.bx.ex hE hne, h.ex.trans hE⟩

end Go.Proofs.YtpjhadaiodnnaaaGreat.M
end

section
namespace Go.Proofs.YtpjhadaiodnnaaaGreat.M
open Go.ChangeShapes Go.WideShapes Go.ChangeAt Go.RowKit
set_option linter.unusedSimpArgs false

/-- A disk without a fuse that may be written to. -/
structure Good (m : PD) : Prop where
  r0 : 0 < m.room
  r1 : m.room ≤ 4194304
  up : m.down = false
  few : m.few
  left : m.left = 0

theorem Ow.fre {w w' : World} {own : Nat → Nat} {B g n c hi : Nat} {p : Option Addr} {xs : List Int} (h : Ow .u8 5 w' B p n c xs) (hs : w'.heap.size ≤ hi) (hg : g < w.heap.size) (hB : w.heap.size ≤ B) : ∀ x, p = some x → 0 < c → Fre (farO own w.heap.size hi) g x.block ∧ w.heap.size ≤ x.block ∧ x.block < w'.heap.size := fun x e h0 => by
  rcases h.own with ⟨h1, _⟩ | h1
  · omega
  · have h2 := World.ownsRow.lt h1 x.block (by rw [e]; rfl)
    exact ⟨⟨farO_in (by omega) (by omega), by omega⟩, by omega, h2.2⟩

theorem ownsRow_chB {S : Nat → Prop} {w w' : World} {B : Nat} {e : TypeId} {sz : Nat} {v : Value} {n : Nat} {xs : List Value} (h : w.ownsRow B e sz v n xs) (hc : Ch S w w') (hs : ∀ k, B ≤ k → k < w.heap.size → ¬ S k) : w'.ownsRow B e sz v n xs := by
  refine ⟨h.1, ?_⟩
  rcases h.2 with h2 | ⟨g', cap, cur, hv', hg, hh, r⟩
  · exact Or.inl h2
  · refine Or.inr ⟨g', cap, cur, hv', hg, ?_, r⟩
    have hl := (Array.getElem?_eq_some_iff.1 hh).1
    rw [hc.block g' hl (hs g' hg hl)]
    exact hh

theorem Ow.chB {k : IntKind} {u : TypeId} {S : Nat → Prop} {w w' : World} {B n c : Nat} {p : Option Addr} {xs : List Int} (h : Ow k u w B p n c xs) (hc : Ch S w w') (hs : ∀ k, B ≤ k → k < w.heap.size → ¬ S k) : Ow k u w' B p n c xs := ⟨h.len, h.own.imp id fun h => ownsRow_chB h hc hs⟩

theorem OwV.chB {u : TypeId} {S : Nat → Prop} {w w' : World} {B n c : Nat} {p : Option Addr} {xs : List Value} (h : OwV u w B p n c xs) (hc : Ch S w w') (hs : ∀ k, B ≤ k → k < w.heap.size → ¬ S k) : OwV u w' B p n c xs := ⟨h.len, h.own.imp id fun h => ownsRow_chB h hc hs⟩

theorem Slo.chB {u : TypeId} {S : Nat → Prop} {w w' : World} {B : Nat} {vs : List Value} {xss : List (List Int)} (h : Slo u w B vs xss) (hc : Ch S w w') (hs : ∀ k, B ≤ k → k < w.heap.size → ¬ S k) : Slo u w' B vs xss :=
  ⟨h.1, fun i hi => by obtain ⟨q, m, d, e, r⟩ := h.2 i hi; exact ⟨q, m, d, e, r.chB hc hs⟩⟩

theorem Ch.of_ex {g : Nat} {w w' : World} (he : Ex g w w') : Ch (fun k => k = g) w w' := ⟨he.os, he.tape, he.output, he.size, fun k hk hn => he.block k hk hn⟩

theorem OwV.fre {u : TypeId} {w w' : World} {own : Nat → Nat} {B g n c hi : Nat} {p : Option Addr} {xs : List Value} (h : OwV u w' B p n c xs) (hs : w'.heap.size ≤ hi) (hg : g < w.heap.size) (hB : w.heap.size ≤ B) : ∀ x, p = some x → 0 < c → Fre (farO own w.heap.size hi) g x.block ∧ w.heap.size ≤ x.block ∧ x.block < w'.heap.size := fun x e h0 => by
  rcases h.own with ⟨h1, _⟩ | h1
  · omega
  · have h2 := World.ownsRow.lt h1 x.block (by rw [e]; rfl)
    exact ⟨⟨farO_in (by omega) (by omega), by omega⟩, by omega, h2.2⟩

theorem Fre.to {own own2 : Nat → Nat} {g k n : Nat} (h : Fre own g k) (hk : k < n) (ho : ∀ k, k < n → own2 k = own k) : Fre own2 g k := ⟨(ho k hk).trans h.1, h.2⟩

set_option maxRecDepth 20000 in
set_option maxHeartbeats 8000000 in
theorem Save_ok (w : World) (B : Nat) (own : Nat → Nat) (a g : Nat) (d : Dk) (m : PD) (ha : a ≤ 100) (h : DA w B own a g d m) (hm : Good m) (hB : B ≤ w.heap.size) (gt : Nat) (t : TP) (pb : Option Addr) (nb cb : Nat) (pr : Option Addr) (cr : Nat) (vs : List Value) (hT : TB w own g gt t pb nb cb pr cr vs) (hfile : t.file ≤ 1) (hgen : 0 ≤ t.r.gen ∧ t.r.gen < 1099511627776)
    (pa : Option Addr) (na ca : Nat) (base : List Int) (hpa : Rd .u8 w pa na ca base) (hby : By base) (hna : na ≤ 8176) (pl : Option Addr) (nl cl : Nat) (us : List Value) (recs : List (List Int)) (hpl : RdV w pl nl cl us) (hus : Sls w us recs) (hnl : nl = recs.length) (hfew : nl ≤ 1000000) (hrec : ∀ i, i < recs.length → By (recs.getD i []) ∧ (recs.getD i []).length ≤ 8192)
    (hroom : ({ m with f := upP m.f (1 - t.file) ⟨[], (m.f (1 - t.file)).lasts, true⟩ } : PD).used + (sealR ⟨t.r.gen + 1, base, recs⟩).length ≤ m.room) :
    Calls Tryz.prog 14 #[.pointer (some ⟨gt, 0, none⟩), .slice pa na ca, .slice pl nl cl] w fun e w' => e = .returned (.int .i64 0) ∧ ∃ own2 d2 qb mb db qr dr us2, DA w' B own2 a g d2 { m with f := upP m.f (1 - t.file) ⟨sealR ⟨t.r.gen + 1, base, recs⟩, sealR ⟨t.r.gen + 1, base, recs⟩, false⟩ } ∧ TB w' own2 g gt ⟨1 - t.file, nl, ⟨t.r.gen + 1, base, recs⟩⟩ qb mb db qr dr us2 ∧ TO w' own2 w.heap.size g gt ⟨1 - t.file, nl, ⟨t.r.gen + 1, base, recs⟩⟩ qb mb db qr dr us2 ∧ (∀ k, k < w.heap.size → own2 k = own k) ∧ Ch (fun k => k = g ∨ k = gt ∨ own k = mark a (1 - t.file)) w w' := by
  have HN : Hid (nl = recs.length) := hnl
  have hgl : g < w.heap.size := h.dc.lt
  have hgtl : gt < w.heap.size := hT.blk.lt
  have hM := tmade_yes w gt g (hT.blk.cell 0)
  have c3 := hT.blk.cell 3
  have hF := fits_any pa na ca pl nl cl us recs w hpl hus hnl hfew
  have hfit : fitsR na recs = true := by unfold fitsR; rw [decide_eq_true hna, Bool.true_and]; exact shortV_yes fun i hi => (hrec i hi).2
  rw [hfit] at hF
  have hge : decide ((1099511627776 : Int) ≤ t.r.gen) = false := decide_eq_false (by omega)
  have hi8 : 1 - t.file < 8 := by omega
  have hok : PR.ok ⟨t.r.gen + 1, base, recs⟩ := ⟨by show 0 ≤ t.r.gen + 1 ∧ t.r.gen + 1 ≤ 1099511627776; omega, ⟨by show base.length ≤ 8176; rw [hpa.len]; exact hna, hby⟩, by show recs.length ≤ 1000000; rw [← HN.out]; exact hfew, hrec⟩
  clear hfit hnl
  go_enter Tryz.func14, Tryz.ntmps14
  go_wp2_with fail
  refine hM.mono ?_
  rintro e w0 ⟨rfl, hw0⟩
  subst hw0
  clear hM
  go_wp2_with fail
  refine hF.mono ?_
  rintro e w1 ⟨rfl, hb1⟩
  clear hF
  have hFo := follow_any w1 gt t.r.gen (cell_below hb1 c3) hgen pa na ca base (hpa.below hb1) (by omega) pl nl cl us recs (hpl.below hb1) (hus.below hb1) HN.out hfew (fun i hi => (hrec i hi).2)
  clear c3
  go_wp2_with fail
  refine hFo.mono ?_
  rintro e w2 ⟨⟨v, rfl, qb, mb, db, qr, dr, us2, rfl, hO2, hV2, hS2⟩, hb2⟩
  dsimp only at hO2 hV2 hS2
  obtain ⟨nr, HNR⟩ : ∃ z, z = recs.length := ⟨_, rfl⟩
  rw [← HNR] at hV2
  dsimp only
  rw [← HNR]
  have HNR2 : Hid (nr = recs.length) := HNR
  clear HNR hFo
  have hb12 := hb1.trans (hb2.mono hb1.size)
  have hba3 := below_alloc w2 (.cells #[.int .i64 (t.r.gen + 1), .slice qb mb db, .slice qr nr dr] 79)
  have hG3 := At.new 79 w2 #[.int .i64 (t.r.gen + 1), .slice qb mb db, .slice qr nr dr]
  have hb3 := hb12.trans (hba3.mono hb12.size)
  have hO3 := hO2.below hba3
  have hV3 := hV2.below hba3
  have hS3 := hS2.below hba3
  have hgb : w0.heap.size ≤ w2.heap.size := hb12.size
  have hT3 := hT.below hb3
  have hOt := other_any _ gt t.file hfile (hT3.blk.cell 1)
  have hSe := sealed_any _ w2.heap.size ⟨t.r.gen + 1, base, recs⟩ hok qb mb db qr dr us2 (by show At 79 _ _ #[.int .i64 (t.r.gen + 1), .slice qb mb db, .slice qr recs.length dr]; rw [← HNR2.out]; exact hG3) hO3.rd (by show RdV _ _ recs.length _ _; rw [← HNR2.out]; exact hV3.rd) hS3.sls
  go_wp2_with fail
  refine hOt.mono ?_
  rintro e w3 ⟨rfl, hw3⟩
  subst hw3
  go_wp2_with fail
  refine hSe.mono ?_
  rintro e w4 ⟨⟨ps, ns, cs, rfl, hOs⟩, hb4⟩
  clear hOt hSe
  have hb04 := hb3.trans (hb4.mono hb3.size)
  have hD4 := h.marked hb04
  have hG4 := hG3.below hb4
  have hO4 := hO3.below hb4
  have hV4 := hV3.below hb4
  have hS4 := hS3.below hb4
  have hT4 := hT.blk.below hb04
  have hogt : farO own w0.heap.size w4.heap.size gt = farM := (farO_low hgtl).trans hT.fg.1
  have hns : ns = (sealR ⟨t.r.gen + 1, base, recs⟩).length := hOs.len.symm
  have hWr := write_ok w4 B _ a g d m hD4 hm.r0 hm.r1 hm.up hm.few hm.left (Nat.le_trans hB hb04.size) (1 - t.file) hi8 gt (hT4.cell 0) (by rw [hogt]; exact far_mark ha hi8) hT.fg.2 ps ns cs _ hOs.rd (fun x e h0 => by
    have h1 := hOs.fre (w := w0) (own := own) (g := g) (hi := w4.heap.size) (Nat.le_refl _) hgl hb3.size x e (Nat.lt_of_lt_of_le h0 hOs.cap)
    exact ⟨by rw [h1.1.1]; exact far_mark ha hi8, h1.1.2⟩) (by have := hm.r1; omega) (by rw [hns]; exact hroom)
  have hgb4 : w2.heap.size < w4.heap.size := hG4.lt
  obtain ⟨gb, hgbe⟩ : ∃ z, z = w2.heap.size := ⟨_, rfl⟩
  rw [← hgbe] at hG4 hgb hgb4 ⊢
  have HGB : Hid (gb = w2.heap.size) := hgbe
  have HGB4 : Hid (gb < w4.heap.size) := hgb4
  have HGBL : Hid (w0.heap.size ≤ gb) := hgb
  clear hgbe hns hgb4 hgb
  go_wp2_with fail
  refine hWr.mono ?_
  rintro e w6 ⟨rfl, own5, d5, hD5, ho5, hc5⟩
  clear hWr
  have hfgb : Fre (farO own w0.heap.size w4.heap.size) g gb := ⟨farO_in HGBL.out HGB4.out, by have := HGBL.out; omega⟩
  have hG6 := hG4.ch hc5 (hfgb.not ha hi8)
  have hT6 := hT4.ch hc5 (Fre.not (g := g) ⟨hogt, hT.fg.2⟩ ha hi8)
  have hgbt : gb ≠ gt := by have := HGBL.out; omega
  have hS6 : Sv w6 gt gb #[.pointer (some ⟨g, 0, none⟩), .int .i64 t.file, .int .i64 t.kept, .int .i64 t.r.gen, .slice pb nb cb, .slice pr t.r.recs.length cr] (t.r.gen + 1) qb mb db qr nr dr w6.drew := Sv.stays _ _ _ _ _ _ _ _ _ _ _ w6 _ ⟨hT6, hG6, Ex.refl _ _⟩ ((Below.refl _ _).drew)
  have HNL : Hid (nl = nr) := by show _ = _; rw [HNR2.out]; exact HN.out
  rw [HNL.out]
  clear hG4 hT4 hD4
  go_wp2_with fail
  refine wp_region_det [0, 1, 2, 3, 4, 6, 7] (fun W => W.rangeAt gb 0 [.int .i64 (t.r.gen + 1), .slice qb mb db, .slice qr nr dr]) (Sv w6 gt gb #[.pointer (some ⟨g, 0, none⟩), .int .i64 t.file, .int .i64 t.kept, .int .i64 t.r.gen, .slice pb nb cb, .slice pr t.r.recs.length cr] (t.r.gen + 1) qb mb db qr nr dr) (by kernel_rfl) hS6 ?_
  refine wpDet_take ?vA0 (Sv.stays _ _ _ _ _ _ _ _ _ _ _) (fun W h => h.rg) (i := 0) rfl (by kernel_rfl) (by kernel_rfl) (by kernel_rfl) (by kernel_rfl) (fun _ _ _ h => h) (Gives.value (by rfl) ?yA0) ?rA0
  case yA0 => (intro w' hSw; go_simp; try with_reducible rfl)
  (try simp only [Act.put, List.getElem_toArray, List.getElem_cons_zero, List.getElem_cons_succ, List.setIfInBounds_toArray, List.set_cons_zero, List.set_cons_succ])
  refine wpDet_take ?vA1 (Sv.stays _ _ _ _ _ _ _ _ _ _ _) (fun W h => h.rg) (i := 1) rfl (by kernel_rfl) (by kernel_rfl) (by kernel_rfl) (by kernel_rfl) (fun _ _ _ h => h) (Gives.value (by rfl) ?yA1) ?rA1
  case yA1 => (intro w' hSw; go_simp; try with_reducible rfl)
  (try simp only [Act.put, List.getElem_toArray, List.getElem_cons_zero, List.getElem_cons_succ, List.setIfInBounds_toArray, List.set_cons_zero, List.set_cons_succ])
  refine wpDet_take ?vA2 (Sv.stays _ _ _ _ _ _ _ _ _ _ _) (fun W h => h.rg) (i := 2) rfl (by kernel_rfl) (by kernel_rfl) (by kernel_rfl) (by kernel_rfl) (fun _ _ _ h => h) (Gives.value (by rfl) ?yA2) ?rA2
  case yA2 => (intro w' hSw; go_simp; try with_reducible rfl)
  (try simp only [Act.put, List.getElem_toArray, List.getElem_cons_zero, List.getElem_cons_succ, List.setIfInBounds_toArray, List.set_cons_zero, List.set_cons_succ])
  refine wpDet_take _ (Sv.stays _ _ _ _ _ _ _ _ _ _ _) (fun W h => h.rg) (i := 3) rfl (by kernel_rfl) (by kernel_rfl) (by kernel_rfl) (by kernel_rfl) (fun _ _ _ h => h) (Gives.of_yields (yieldsIf_load_mid (by rfl) _ _ rfl _ _ rfl _ _ (fun W h => h) Tryz.underlying79 rfl sizeR)) ?_
  (try simp only [Act.put, List.getElem_toArray, List.getElem_cons_zero, List.getElem_cons_succ, List.setIfInBounds_toArray, List.set_cons_zero, List.set_cons_succ])
  refine wpDet_take ?vA4 (Sv.stays _ _ _ _ _ _ _ _ _ _ _) (fun W h => h.rg) (i := 4) rfl (by kernel_rfl) (by kernel_rfl) (by kernel_rfl) (by kernel_rfl) (fun _ _ _ h => h) (Gives.value (by rfl) ?yA4) ?rA4
  case yA4 => (intro w' hSw; go_simp; try with_reducible rfl)
  (try simp only [Act.put, List.getElem_toArray, List.getElem_cons_zero, List.getElem_cons_succ, List.setIfInBounds_toArray, List.set_cons_zero, List.set_cons_succ])
  refine wpDet_take ?vA6 (Sv.stays _ _ _ _ _ _ _ _ _ _ _) (fun W h => h.rg) (i := 6) rfl (by kernel_rfl) (by kernel_rfl) (by kernel_rfl) (by kernel_rfl) (fun _ _ _ h => h) (Gives.value (by rfl) ?yA6) ?rA6
  case yA6 => (intro w' hSw; go_simp; try with_reducible rfl)
  (try simp only [Act.put, List.getElem_toArray, List.getElem_cons_zero, List.getElem_cons_succ, List.setIfInBounds_toArray, List.set_cons_zero, List.set_cons_succ])
  refine wpDet_take ?vA7 (Sv.stays _ _ _ _ _ _ _ _ _ _ _) (fun W h => h.rg) (i := 7) rfl (by kernel_rfl) (by kernel_rfl) (by kernel_rfl) (by kernel_rfl) (fun _ _ _ h => h) (Gives.value (by rfl) ?yA7) ?rA7
  case yA7 => (intro w' hSw; go_simp; try with_reducible rfl)
  (try simp only [Act.put, List.getElem_toArray, List.getElem_cons_zero, List.getElem_cons_succ, List.setIfInBounds_toArray, List.set_cons_zero, List.set_cons_succ])
  refine wpDet_ready (rs := [5]) (by kernel_rfl) (by simp) (AllDet.cons rfl (fun V hV K hK => ?_) AllDet.nil)
  rw [if_pos (by rfl)]
  have hC := other_any V gt t.file hfile (hV.at0.cell 1)
  refine wp_enterX 41 #[.pointer (some ⟨gt, 0, none⟩)] (by first | (go_simp; done) | (go_simp; rfl)) (fun v V' => v = .int .i64 ((1 - t.file : Nat) : Int) ∧ V' = V) (hC.mono fun e V' ⟨h1, h2⟩ => ⟨_, h1, rfl, h2⟩) ?_
  rintro v V' ⟨rfl, rfl⟩
  refine hK.out (Sv w6 gt gb #[.pointer (some ⟨g, 0, none⟩), .int .i64 t.file, .int .i64 t.kept, .int .i64 t.r.gen, .slice pb nb cb, .slice pr t.r.recs.length cr] (t.r.gen + 1) qb mb db qr nr dr) _ _ (Sv.stays _ _ _ _ _ _ _ _ _ _ _) (fun _ W h => h.rg) hV ?_
  clear hK K hC hV
  (try simp only [Act.put, List.getElem_toArray, List.getElem_cons_zero, List.getElem_cons_succ, List.setIfInBounds_toArray, List.set_cons_zero, List.set_cons_succ])
  refine wpDet_ready (rs := [8]) (by kernel_rfl) (by simp) (AllDet.cons rfl (fun V hV K hK => ?_) AllDet.nil)
  rw [if_pos (by rfl)]
  refine wp_value (.pointer (some ⟨gt, 0, none⟩)) V (by first | (go_simp; done) | (go_simp; rfl)) ?_
  refine hK.out (Sv w6 gt gb #[.pointer (some ⟨g, 0, none⟩), .int .i64 t.file, .int .i64 t.kept, .int .i64 t.r.gen, .slice pb nb cb, .slice pr t.r.recs.length cr] (t.r.gen + 1) qb mb db qr nr dr) _ _ (Sv.stays _ _ _ _ _ _ _ _ _ _ _) (fun _ W h => h.rg) hV ?_
  clear hK K hV
  (try simp only [Act.put, List.getElem_toArray, List.getElem_cons_zero, List.getElem_cons_succ, List.setIfInBounds_toArray, List.set_cons_zero, List.set_cons_succ])
  refine wpDet_ready (rs := [9]) (by kernel_rfl) (by simp) (AllDet.cons rfl (fun V hV K hK => ?_) AllDet.nil)
  rw [if_pos (by rfl)]
  refine wp_value (.pointer (some ⟨gt, 3, none⟩)) V (by first | (go_simp; done) | (go_simp; rfl)) ?_
  refine hK.out (Sv w6 gt gb #[.pointer (some ⟨g, 0, none⟩), .int .i64 t.file, .int .i64 t.kept, .int .i64 t.r.gen, .slice pb nb cb, .slice pr t.r.recs.length cr] (t.r.gen + 1) qb mb db qr nr dr) _ _ (Sv.stays _ _ _ _ _ _ _ _ _ _ _) (fun _ W h => h.rg) hV ?_
  clear hK K hV
  (try simp only [Act.put, List.getElem_toArray, List.getElem_cons_zero, List.getElem_cons_succ, List.setIfInBounds_toArray, List.set_cons_zero, List.set_cons_succ])
  refine wpDet_ready (rs := [10]) (by kernel_rfl) (by simp) (AllDet.cons rfl (fun V hV K hK => ?_) AllDet.nil)
  rw [if_pos (by rfl)]
  have hth : V.there gt 3 3 := fun j hj => by
    refine ⟨?_, hV.at0.free (3 + j)⟩
    match j, hj with
    | 0, _ => rw [hV.at0.cell 3]; rfl
    | 1, _ => rw [hV.at0.cell 4]; rfl
    | 2, _ => rw [hV.at0.cell 5]; rfl
  refine wp_store_mid 79 _ _ rfl gt 3 #[.int .i64 (t.r.gen + 1), .slice qb mb db, .slice qr nr dr] rfl rfl hth sizeR (by simp [Value.oneCell']) ?_
  have hz : (Sv w6 gt gb #[.pointer (some ⟨g, 0, none⟩), .int .i64 t.file, .int .i64 t.kept, .int .i64 (t.r.gen + 1), .slice qb mb db, .slice qr nr dr] (t.r.gen + 1) qb mb db qr nr dr) (V.setCells gt 3 (#[.int .i64 (t.r.gen + 1), .slice qb mb db, .slice qr nr dr] : Array Value).toList) := hV.put (((Ex.refl gt V).setCell 3 _).setCell 4 _ |>.setCell 5 _) (At.put345 hV.at0 _ _ _) hgbt
  refine hK.out (Sv w6 gt gb #[.pointer (some ⟨g, 0, none⟩), .int .i64 t.file, .int .i64 t.kept, .int .i64 (t.r.gen + 1), .slice qb mb db, .slice qr nr dr] (t.r.gen + 1) qb mb db qr nr dr) _ _ (Sv.stays _ _ _ _ _ _ _ _ _ _ _) (fun _ W h => h.rg) hz ?_
  clear hK K hV hth hz
  (try simp only [Act.put, List.getElem_toArray, List.getElem_cons_zero, List.getElem_cons_succ, List.setIfInBounds_toArray, List.set_cons_zero, List.set_cons_succ])
  refine wpDet_ready (rs := [11]) (by kernel_rfl) (by simp) (AllDet.cons rfl (fun V hV K hK => ?_) AllDet.nil)
  rw [if_pos (by rfl)]
  refine wp_value (.pointer (some ⟨gt, 0, none⟩)) V (by first | (go_simp; done) | (go_simp; rfl)) ?_
  refine hK.out (Sv w6 gt gb #[.pointer (some ⟨g, 0, none⟩), .int .i64 t.file, .int .i64 t.kept, .int .i64 (t.r.gen + 1), .slice qb mb db, .slice qr nr dr] (t.r.gen + 1) qb mb db qr nr dr) _ _ (Sv.stays _ _ _ _ _ _ _ _ _ _ _) (fun _ W h => h.rg) hV ?_
  clear hK K hV
  (try simp only [Act.put, List.getElem_toArray, List.getElem_cons_zero, List.getElem_cons_succ, List.setIfInBounds_toArray, List.set_cons_zero, List.set_cons_succ])
  refine wpDet_ready (rs := [12]) (by kernel_rfl) (by simp) (AllDet.cons rfl (fun V hV K hK => ?_) AllDet.nil)
  rw [if_pos (by rfl)]
  refine wp_value (.pointer (some ⟨gt, 1, none⟩)) V (by first | (go_simp; done) | (go_simp; rfl)) ?_
  refine hK.out (Sv w6 gt gb #[.pointer (some ⟨g, 0, none⟩), .int .i64 t.file, .int .i64 t.kept, .int .i64 (t.r.gen + 1), .slice qb mb db, .slice qr nr dr] (t.r.gen + 1) qb mb db qr nr dr) _ _ (Sv.stays _ _ _ _ _ _ _ _ _ _ _) (fun _ W h => h.rg) hV ?_
  clear hK K hV
  (try simp only [Act.put, List.getElem_toArray, List.getElem_cons_zero, List.getElem_cons_succ, List.setIfInBounds_toArray, List.set_cons_zero, List.set_cons_succ])
  refine wpDet_ready (rs := [13]) (by kernel_rfl) (by simp) (AllDet.cons rfl (fun V hV K hK => ?_) AllDet.nil)
  rw [if_pos (by rfl)]
  refine wp_store_one _ _ _ rfl gt 1 (.int .i64 ((1 - t.file : Nat) : Int)) rfl rfl _ rfl rfl sizeI (hV.at0.cell 1) (hV.at0.free 1) ?_
  have hz : (Sv w6 gt gb #[.pointer (some ⟨g, 0, none⟩), .int .i64 ((1 - t.file : Nat) : Int), .int .i64 t.kept, .int .i64 (t.r.gen + 1), .slice qb mb db, .slice qr nr dr] (t.r.gen + 1) qb mb db qr nr dr) (V.setCell ⟨gt, 1, none⟩ (.int .i64 ((1 - t.file : Nat) : Int))) := hV.put ((Ex.refl gt V).setCell 1 _) (heap_setCell_same V gt 1 _ _ _ hV.at0) hgbt
  refine hK.out (Sv w6 gt gb #[.pointer (some ⟨g, 0, none⟩), .int .i64 ((1 - t.file : Nat) : Int), .int .i64 t.kept, .int .i64 (t.r.gen + 1), .slice qb mb db, .slice qr nr dr] (t.r.gen + 1) qb mb db qr nr dr) _ _ (Sv.stays _ _ _ _ _ _ _ _ _ _ _) (fun _ W h => h.rg) hz ?_
  clear hK K hV hz
  (try simp only [Act.put, List.getElem_toArray, List.getElem_cons_zero, List.getElem_cons_succ, List.setIfInBounds_toArray, List.set_cons_zero, List.set_cons_succ])
  refine wpDet_ready (rs := [14]) (by kernel_rfl) (by simp) (AllDet.cons rfl (fun V hV K hK => ?_) AllDet.nil)
  rw [if_pos (by rfl)]
  refine wp_value (.pointer (some ⟨gt, 0, none⟩)) V (by first | (go_simp; done) | (go_simp; rfl)) ?_
  refine hK.out (Sv w6 gt gb #[.pointer (some ⟨g, 0, none⟩), .int .i64 ((1 - t.file : Nat) : Int), .int .i64 t.kept, .int .i64 (t.r.gen + 1), .slice qb mb db, .slice qr nr dr] (t.r.gen + 1) qb mb db qr nr dr) _ _ (Sv.stays _ _ _ _ _ _ _ _ _ _ _) (fun _ W h => h.rg) hV ?_
  clear hK K hV
  (try simp only [Act.put, List.getElem_toArray, List.getElem_cons_zero, List.getElem_cons_succ, List.setIfInBounds_toArray, List.set_cons_zero, List.set_cons_succ])
  refine wpDet_ready (rs := [15]) (by kernel_rfl) (by simp) (AllDet.cons rfl (fun V hV K hK => ?_) AllDet.nil)
  rw [if_pos (by rfl)]
  refine wp_value (.pointer (some ⟨gt, 2, none⟩)) V (by first | (go_simp; done) | (go_simp; rfl)) ?_
  refine hK.out (Sv w6 gt gb #[.pointer (some ⟨g, 0, none⟩), .int .i64 ((1 - t.file : Nat) : Int), .int .i64 t.kept, .int .i64 (t.r.gen + 1), .slice qb mb db, .slice qr nr dr] (t.r.gen + 1) qb mb db qr nr dr) _ _ (Sv.stays _ _ _ _ _ _ _ _ _ _ _) (fun _ W h => h.rg) hV ?_
  clear hK K hV
  (try simp only [Act.put, List.getElem_toArray, List.getElem_cons_zero, List.getElem_cons_succ, List.setIfInBounds_toArray, List.set_cons_zero, List.set_cons_succ])
  refine wpDet_ready (rs := [16]) (by kernel_rfl) (by simp) (AllDet.cons rfl (fun V hV K hK => ?_) AllDet.nil)
  rw [if_pos (by rfl)]
  refine wp_store_one _ _ _ rfl gt 2 (.int .i64 nr) rfl rfl _ rfl rfl sizeI (hV.at0.cell 2) (hV.at0.free 2) ?_
  have hz : (Sv w6 gt gb #[.pointer (some ⟨g, 0, none⟩), .int .i64 ((1 - t.file : Nat) : Int), .int .i64 nr, .int .i64 (t.r.gen + 1), .slice qb mb db, .slice qr nr dr] (t.r.gen + 1) qb mb db qr nr dr) (V.setCell ⟨gt, 2, none⟩ (.int .i64 nr)) := hV.put ((Ex.refl gt V).setCell 2 _) (heap_setCell_same V gt 2 _ _ _ hV.at0) hgbt
  refine hK.out (Sv w6 gt gb #[.pointer (some ⟨g, 0, none⟩), .int .i64 ((1 - t.file : Nat) : Int), .int .i64 nr, .int .i64 (t.r.gen + 1), .slice qb mb db, .slice qr nr dr] (t.r.gen + 1) qb mb db qr nr dr) _ _ (Sv.stays _ _ _ _ _ _ _ _ _ _ _) (fun _ W h => h.rg) hz ?_
  clear hK K hV hz
  (try simp only [Act.put, List.getElem_toArray, List.getElem_cons_zero, List.getElem_cons_succ, List.setIfInBounds_toArray, List.set_cons_zero, List.set_cons_succ])
  refine wpDet_done (by kernel_rfl) (fun W7 hW7 => ?_) _
  have hw1 : w0.heap.size ≤ w1.heap.size := hb1.size
  have hnS : ∀ k, w1.heap.size ≤ k → k < w4.heap.size → ¬ (k = g ∨ farO own w0.heap.size w4.heap.size k = mark a (1 - t.file)) := fun k h1 h2 => Fre.not (own := farO own w0.heap.size w4.heap.size) (g := g) ⟨farO_in (Nat.le_trans hw1 h1) h2, by omega⟩ ha hi8
  have hCx := Ch.of_ex hW7.ex
  have hnX : ∀ k, w1.heap.size ≤ k → k < w6.heap.size → ¬ (k = gt) := fun k h1 _ => by omega
  have hO7 := (hO4.chB hc5 hnS).chB hCx hnX
  have hV7 := (hV4.chB hc5 hnS).chB hCx hnX
  have hS7 := (hS4.chB hc5 hnS).chB hCx hnX
  have how : own5 gt = farM := (ho5 gt (Nat.lt_of_lt_of_le hgtl hb04.size)).trans hogt
  have hD7 := hD5.exF ha hW7.ex how hT.fg.2
  have hA7 := hW7.at0
  have hc7 : Ch (fun k => k = g ∨ k = gt ∨ own k = mark a (1 - t.file)) w0 W7 := ((Ch.of_below hb04 (fun k => k = g ∨ k = gt ∨ own k = mark a (1 - t.file))).then hc5 (fun k hk e => e.elim Or.inl (fun e => Or.inr (Or.inr (by rw [farO_low hk] at e; exact e))))).then hCx (fun k _ e => Or.inr (Or.inl e))
  have hn5 : ∀ k, k < w0.heap.size → own5 k = own k := fun k hk => (ho5 k (Nat.lt_of_lt_of_le hk hb04.size)).trans (farO_low hk)
  have hTO : TO W7 own5 w0.heap.size g gt ⟨1 - t.file, nl, ⟨t.r.gen + 1, base, recs⟩⟩ qb mb db qr dr us2 := by
    refine ⟨hO7.lower hw1, fun x e h0 => ?_, ?_, fun x e h0 => ?_, hS7.lower hw1, fun i q m d hi e x ex h0 => ?_⟩
    · have h1 := hO4.fre (w := w0) (own := own) (g := g) (hi := w4.heap.size) (Nat.le_refl _) hgl hw1 x e h0
      exact ⟨h1.1.to h1.2.2 ho5, by omega⟩
    · show OwG 40 W7 w0.heap.size qr recs.length dr us2
      rw [← HNR2.out]
      exact (hV7.lowerB hw1).g
    · have h1 := hV4.fre (w := w0) (own := own) (g := g) (hi := w4.heap.size) (Nat.le_refl _) hgl hw1 x e h0
      exact ⟨h1.1.to h1.2.2 ho5, by omega⟩
    · obtain ⟨q', m', d', e', hr⟩ := hS4.2 i hi
      rw [e] at e'
      cases e'
      have h1 := hr.fre (w := w0) (own := own) (g := g) (hi := w4.heap.size) (Nat.le_refl _) hgl hw1 x ex h0
      exact ⟨h1.1.to h1.2.2 ho5, by omega⟩
  have hT7 : TB W7 own5 g gt ⟨1 - t.file, nl, ⟨t.r.gen + 1, base, recs⟩⟩ qb mb db qr dr us2 := by
    refine hTO.tb ?_ ⟨how, hT.fg.2⟩
    show At 81 W7 gt #[.pointer (some ⟨g, 0, none⟩), .int .i64 ((1 - t.file : Nat) : Int), .int .i64 (nl : Int), .int .i64 (t.r.gen + 1), .slice qb mb db, .slice qr recs.length dr]
    rw [HNL.out, ← HNR2.out]
    exact hA7
  go_wp2_with fail
  go_ret
  exact ⟨rfl, own5, d5, qb, mb, db, qr, dr, us2, hD7, hT7, hTO, hn5, hc7⟩

end Go.Proofs.YtpjhadaiodnnaaaGreat.M
end

section
namespace Go.Proofs.YtpjhadaiodnnaaaGreat.M
open Go.ChangeShapes Go.WideShapes Go.ChangeAt Go.RowKit
set_option linter.unusedSimpArgs false

set_option maxRecDepth 20000 in
theorem TLen_ok (w : World) (gt g : Nat) (p : Option Addr) (n c : Nat) (h0 : w.cell? ⟨gt, 0, none⟩ = some (.pointer (some ⟨g, 0, none⟩))) (h5 : w.cell? ⟨gt, 5, none⟩ = some (.slice p n c)) : Calls Tryz.prog 30 #[.pointer (some ⟨gt, 0, none⟩)] w fun e w' => e = .returned (.int .i64 n) ∧ Below w.heap.size w w' := by
  have hM := tmade_yes w gt g h0
  go_enter Tryz.func30, Tryz.ntmps30
  go_wp2_with fail
  refine hM.mono ?_
  rintro e w0 ⟨rfl, hw0⟩
  subst hw0
  clear hM
  go_wp2_with fail
  go_ret
  exact ⟨rfl, Below.refl _ _⟩

set_option maxRecDepth 20000 in
theorem TKept_ok (w : World) (gt g : Nat) (n : Nat) (h0 : w.cell? ⟨gt, 0, none⟩ = some (.pointer (some ⟨g, 0, none⟩))) (h2 : w.cell? ⟨gt, 2, none⟩ = some (.int .i64 n)) : Calls Tryz.prog 26 #[.pointer (some ⟨gt, 0, none⟩)] w fun e w' => e = .returned (.int .i64 n) ∧ Below w.heap.size w w' := by
  have hM := tmade_yes w gt g h0
  go_enter Tryz.func26, Tryz.ntmps26
  go_wp2_with fail
  refine hM.mono ?_
  rintro e w0 ⟨rfl, hw0⟩
  subst hw0
  clear hM
  go_wp2_with fail
  go_ret
  exact ⟨rfl, Below.refl _ _⟩

set_option maxRecDepth 20000 in
theorem TBase_ok (w : World) (gt g : Nat) (p : Option Addr) (n c : Nat) (xs : List Int) (h0 : w.cell? ⟨gt, 0, none⟩ = some (.pointer (some ⟨g, 0, none⟩))) (h4 : w.cell? ⟨gt, 4, none⟩ = some (.slice p n c)) (hr : Rd .u8 w p n c xs) (hn : n ≤ 1099511627776) : Calls Tryz.prog 29 #[.pointer (some ⟨gt, 0, none⟩)] w fun e w' => (∃ p' c', e = .returned (.slice p' n c') ∧ Ow .u8 5 w' w.heap.size p' n c' xs) ∧ Below w.heap.size w w' := by
  have hM := tmade_yes w gt g h0
  have hC := bcloneO p n c xs w hr hn
  go_enter Tryz.func29, Tryz.ntmps29
  go_wp2_with fail
  refine hM.mono ?_
  rintro e w0 ⟨rfl, hw0⟩
  subst hw0
  clear hM
  go_wp2_with fail
  refine hC.mono ?_
  rintro e w1 ⟨p', c', rfl, hO, hb⟩
  clear hC
  go_wp2_with fail
  go_ret
  exact ⟨⟨p', c', rfl, hO⟩, hb⟩

set_option maxRecDepth 20000 in
set_option maxHeartbeats 2000000 in
theorem TSync_ok (w : World) (B : Nat) (own : Nat → Nat) (a g : Nat) (d : Dk) (m : PD) (ha : a ≤ 100) (h : DA w B own a g d m) (hm : Good m) (gt : Nat) (t : TP) (pb : Option Addr) (nb cb : Nat) (pr : Option Addr) (cr : Nat) (vs : List Value) (hT : TB w own g gt t pb nb cb pr cr vs) (hfile : t.file ≤ 1) :
    Calls Tryz.prog 12 #[.pointer (some ⟨gt, 0, none⟩)] w fun e w' => e = .returned (.int .i64 0) ∧ ∃ own2 d2, DA w' B own2 a g d2 { m with f := upP m.f t.file ⟨(m.f t.file).told, (m.f t.file).told, false⟩ } ∧ TB w' own2 g gt { t with kept := t.r.recs.length } pb nb cb pr cr vs ∧ (∀ k, k < w.heap.size → own2 k = own k) ∧ Ch (fun k => k = g ∨ k = gt ∨ own k = mark a t.file) w w' := by
  have hi8 : t.file < 8 := by omega
  have hM := tmade_yes w gt g (hT.blk.cell 0)
  go_enter Tryz.func12, Tryz.ntmps12
  go_wp2_with fail
  refine hM.mono ?_
  rintro e w0 ⟨rfl, hw0⟩
  subst hw0
  clear hM
  have hS0w : ∀ W, Bl w0 W → (W.cell? ⟨gt, 0, none⟩ = some (.pointer (some ⟨g, 0, none⟩)) ∧ W.cell? ⟨gt, 1, none⟩ = some (.int .i64 t.file)) := fun W hW => ⟨cell_below (Bl.out' hW) (hT.blk.cell 0), cell_below (Bl.out' hW) (hT.blk.cell 1)⟩
  have hS0 : Bl w0 w0.drew := (Below.refl _ _).drew
  go_wp2_with fail
  refine wp_region_det [0, 1, 2, 3, 4, 5, 6, 7] (fun W => W.cell? ⟨gt, 0, none⟩ = some (.pointer (some ⟨g, 0, none⟩)) ∧ W.cell? ⟨gt, 1, none⟩ = some (.int .i64 t.file)) (Bl w0) (by kernel_rfl) hS0 ?_
  refine wpDet_take ?vA0 (Bl.stays w0) hS0w (i := 0) rfl (by kernel_rfl) (by kernel_rfl) (by kernel_rfl) (by kernel_rfl) (fun _ _ _ h => h) (Gives.value (by rfl) ?yA0) ?rA0
  case yA0 => (intro w' hSw; (try dsimp only at hSw); go_simp; try with_reducible rfl)
  (try simp only [Act.put, List.getElem_toArray, List.getElem_cons_zero, List.getElem_cons_succ, List.setIfInBounds_toArray, List.set_cons_zero, List.set_cons_succ])
  refine wpDet_take ?vA1 (Bl.stays w0) hS0w (i := 1) rfl (by kernel_rfl) (by kernel_rfl) (by kernel_rfl) (by kernel_rfl) (fun _ _ _ h => h) (Gives.value (by rfl) ?yA1) ?rA1
  case yA1 => (intro w' hSw; (try dsimp only at hSw); go_simp; try with_reducible rfl)
  (try simp only [Act.put, List.getElem_toArray, List.getElem_cons_zero, List.getElem_cons_succ, List.setIfInBounds_toArray, List.set_cons_zero, List.set_cons_succ])
  refine wpDet_take ?vA2 (Bl.stays w0) hS0w (i := 2) rfl (by kernel_rfl) (by kernel_rfl) (by kernel_rfl) (by kernel_rfl) (fun _ _ _ h => h) (Gives.value (by rfl) ?yA2) ?rA2
  case yA2 => (intro w' hSw; (try dsimp only at hSw); go_simp; try with_reducible rfl)
  (try simp only [Act.put, List.getElem_toArray, List.getElem_cons_zero, List.getElem_cons_succ, List.setIfInBounds_toArray, List.set_cons_zero, List.set_cons_succ])
  refine wpDet_take ?vA3 (Bl.stays w0) hS0w (i := 3) rfl (by kernel_rfl) (by kernel_rfl) (by kernel_rfl) (by kernel_rfl) (fun _ _ _ h => h) (Gives.value (by rfl) ?yA3) ?rA3
  case yA3 => (intro w' hSw; have hz0 := hSw.1; (try dsimp only at hSw); go_simp; try with_reducible rfl)
  (try simp only [Act.put, List.getElem_toArray, List.getElem_cons_zero, List.getElem_cons_succ, List.setIfInBounds_toArray, List.set_cons_zero, List.set_cons_succ])
  refine wpDet_take ?vA4 (Bl.stays w0) hS0w (i := 4) rfl (by kernel_rfl) (by kernel_rfl) (by kernel_rfl) (by kernel_rfl) (fun _ _ _ h => h) (Gives.value (by rfl) ?yA4) ?rA4
  case yA4 => (intro w' hSw; (try dsimp only at hSw); go_simp; try with_reducible rfl)
  (try simp only [Act.put, List.getElem_toArray, List.getElem_cons_zero, List.getElem_cons_succ, List.setIfInBounds_toArray, List.set_cons_zero, List.set_cons_succ])
  refine wpDet_take ?vA5 (Bl.stays w0) hS0w (i := 5) rfl (by kernel_rfl) (by kernel_rfl) (by kernel_rfl) (by kernel_rfl) (fun _ _ _ h => h) (Gives.value (by rfl) ?yA5) ?rA5
  case yA5 => (intro w' hSw; (try dsimp only at hSw); go_simp; try with_reducible rfl)
  (try simp only [Act.put, List.getElem_toArray, List.getElem_cons_zero, List.getElem_cons_succ, List.setIfInBounds_toArray, List.set_cons_zero, List.set_cons_succ])
  refine wpDet_take ?vA6 (Bl.stays w0) hS0w (i := 6) rfl (by kernel_rfl) (by kernel_rfl) (by kernel_rfl) (by kernel_rfl) (fun _ _ _ h => h) (Gives.value (by rfl) ?yA6) ?rA6
  case yA6 => (intro w' hSw; (try dsimp only at hSw); go_simp; try with_reducible rfl)
  (try simp only [Act.put, List.getElem_toArray, List.getElem_cons_zero, List.getElem_cons_succ, List.setIfInBounds_toArray, List.set_cons_zero, List.set_cons_succ])
  refine wpDet_take ?vA7 (Bl.stays w0) hS0w (i := 7) rfl (by kernel_rfl) (by kernel_rfl) (by kernel_rfl) (by kernel_rfl) (fun _ _ _ h => h) (Gives.value (by rfl) ?yA7) ?rA7
  case yA7 => (intro w' hSw; have hz0 := hSw.2; (try dsimp only at hSw); go_simp; try with_reducible rfl)
  (try simp only [Act.put, List.getElem_toArray, List.getElem_cons_zero, List.getElem_cons_succ, List.setIfInBounds_toArray, List.set_cons_zero, List.set_cons_succ])
  refine wpDet_ready (rs := [8]) (by kernel_rfl) (by simp) (AllDet.cons rfl (fun V hV K hK => ?_) AllDet.nil)
  rw [if_pos (by rfl)]
  have hbV := Bl.out' hV
  have hS := Sync_ok V B own a g d m (h.below hbV) hm.r0 hm.up hm.few t.file hi8
  rw [act0 hm.left, gone0 hm.left] at hS
  refine wp_enterX 36 #[.pointer (some ⟨g, 0, none⟩), .int .i64 t.file] (by first | (go_simp; done) | (go_simp; rfl)) (fun v V' => v = .int .i64 0 ∧ ∃ own1 d1, DA V' B own1 a g d1 { m with f := upP m.f t.file ⟨(m.f t.file).told, (m.f t.file).told, false⟩ } ∧ (∀ k, k < V.heap.size → own1 k = own k) ∧ Ch (fun k => k = g ∨ own k = mark a t.file) V V') (hS.mono fun e V' ⟨h1, h2⟩ => ⟨_, h1, rfl, h2⟩) ?_
  rintro v V1 ⟨rfl, own1, d1, h1, ho1, hc1⟩
  have hT1 := TB.ch ha hi8 (hT.below hbV) hc1 ho1
  have hcc := (Ch.of_below hbV (fun k => k = g ∨ own k = mark a t.file)).trans hc1
  have hoo : ∀ k, k < w0.heap.size → own1 k = own k := fun k hk => ho1 k (Nat.lt_of_lt_of_le hk hbV.size)
  have c01 := hT1.blk.cell 0
  have c11 := hT1.blk.cell 1
  have hS1w : ∀ W, Bl V1 W → (W.cell? ⟨gt, 0, none⟩ = some (.pointer (some ⟨g, 0, none⟩)) ∧ W.cell? ⟨gt, 1, none⟩ = some (.int .i64 t.file)) := fun W hW => ⟨cell_below (Bl.out' hW) c01, cell_below (Bl.out' hW) c11⟩
  refine hK.out (Bl V1) _ _ (Bl.stays V1) (fun _ W h => hS1w W h) (Below.refl _ _) ?_
  clear hK K hV hS ho1 hc1 hbV c01 c11
  (try simp only [Act.put, List.getElem_toArray, List.getElem_cons_zero, List.getElem_cons_succ, List.setIfInBounds_toArray, List.set_cons_zero, List.set_cons_succ])
  refine wpDet_ready (rs := [9]) (by kernel_rfl) (by simp) (AllDet.cons rfl (fun V hV K hK => ?_) AllDet.nil)
  rw [if_pos (by rfl)]
  refine wp_value (.int .i64 0) V (by first | (go_simp; done) | (go_simp; rfl)) ?_
  refine hK.out (Bl V1) _ _ (Bl.stays V1) (fun _ W h => hS1w W h) hV ?_
  clear hK K hV
  (try simp only [Act.put, List.getElem_toArray, List.getElem_cons_zero, List.getElem_cons_succ, List.setIfInBounds_toArray, List.set_cons_zero, List.set_cons_succ])
  refine wpDet_done (by kernel_rfl) (fun W2 hW2 => ?_) _
  have hbW := Bl.out' hW2
  have hT2 := hT1.below hbW
  have h2 := h1.below hbW
  have hc2 := hcc.trans (Ch.of_below hbW _)
  have c5 := hT2.blk.cell 5
  have c2 := hT2.blk.cell 2
  have f2 := hT2.blk.free 2
  have hot : own1 gt = farM := hT2.fg.1
  clear hS1w hW2 hbW h1 hT1 hcc hS0w hS0
  go_wp2_with fail
  go_ret
  have hEx : Ex gt W2 (W2.setCell ⟨gt, 2, none⟩ (.int .i64 t.r.recs.length)) := (Ex.refl gt W2).setCell 2 _
  have hCx := Ch.of_ex hEx
  refine ⟨rfl, own1, d1, h2.exF ha hEx hot hT.fg.2, ?_, hoo, ?_⟩
  · exact TB.put hT2 hEx t.file t.r.recs.length (heap_setCell_same W2 gt 2 _ _ _ hT2.blk)
  · exact (hc2.mono (T := fun k => k = g ∨ k = gt ∨ own k = mark a t.file) (fun k _ e => e.elim Or.inl fun e => Or.inr (Or.inr e))).then hCx (fun k _ e => Or.inr (Or.inl e))

end Go.Proofs.YtpjhadaiodnnaaaGreat.M
end
