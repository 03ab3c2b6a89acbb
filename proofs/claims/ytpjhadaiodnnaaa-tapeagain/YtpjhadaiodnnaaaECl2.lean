/-
  Own text: the contract of a disk's Clone.
-/
import Derived.Test.YtpjhadaiodnnaaaEClone
namespace Go.Proofs.Ytpjhadaiodnnaaa.M
open Go.ChangeShapes Go.WideShapes Go.ChangeAt Go.RowKit

theorem Ch.setCells (b : Nat) : ∀ (vs : List Value) (o : Nat) (w : World), Ch (fun k => k = b) w (w.setCells b o vs)
  | [], _, w => Ch.refl _ w
  | v :: r, o, w => (Ch.setCell w ⟨b, o, none⟩ v).trans (Ch.setCells b r (o + 1) _)

theorem wp_runs {P : Program} {op : Oper} {a : Act} {w : World} {K : Act → World → Prop} {Q : Exit → Act → World → Prop} {v : Value} {w' : World} (h : (execOp a.eval op).run P w = .ok (.value v) w') (k : K (a.put op.dst v) w') : op.wp P a w K Q := by
  unfold Oper.wp
  rw [h]
  exact k

/-- While a disk is cloned. -/
def QS (w : World) (g : Nat) (d : Dk) (ks : List Int) (V : World) : Prop := DC V g d ∧ Rd .i64 V d.kp d.kn d.kc ks ∧ Below w.heap.size w V

theorem QS.stays (w : World) (g : Nat) (d : Dk) (ks : List Int) : Stays (QS w g d ks) := fun _ _ h hb => ⟨h.1.below hb h.1.lt, h.2.1.below' hb, h.2.2.trans (hb.mono h.2.2.size)⟩

theorem QSR.stays (w : World) (g : Nat) (d : Dk) (ks : List Int) (p' : Option Addr) (c' : Nat) : Stays (fun U => QS w g d ks U ∧ Rd .i64 U p' d.kn c' ks ∧ (∀ x, p' = some x → w.heap.size ≤ x.block ∧ x.block < U.heap.size)) := fun U U' h hb =>
  ⟨QS.stays w g d ks U U' h.1 hb, h.2.1.below' hb, fun x e => ⟨(h.2.2 x e).1, Nat.lt_of_lt_of_le (h.2.2 x e).2 hb.size⟩⟩

/-- While its k-th file is. -/
def KS (wr : World) (g gc k : Nat) (f : Fl) (xs ys : List Int) (V : World) : Prop :=
  V.cell? ⟨g, 2 + k * 3, none⟩ = some (.slice f.tp f.tn f.tc) ∧ V.cell? ⟨g, 2 + k * 3 + 1, none⟩ = some (.slice f.lp f.ln f.lc) ∧ V.cell? ⟨g, 2 + k * 3 + 2, none⟩ = some (.bool f.cl) ∧ Rd .u8 V f.tp f.tn f.tc xs ∧ Rd .u8 V f.lp f.ln f.lc ys ∧ V.there gc (2 + k * 3) 3 ∧ Below wr.heap.size wr V

theorem there_below {w w' : World} {b o n : Nat} (h : w.there b o n) (h0 : 0 < n) (hb : Below w.heap.size w w') : w'.there b o n := fun j hj => by
  obtain ⟨v, hv⟩ := Option.isSome_iff_exists.1 (h 0 h0).1
  have hlt := World.block_lt_of_cell? _ _ hv
  rw [hb.cell (p := ⟨b, o + j, none⟩) hlt, hb.frozen (p := ⟨b, o + j, none⟩) hlt]
  exact h j hj

theorem KS.stays (wr : World) (g gc k : Nat) (f : Fl) (xs ys : List Int) : Stays (KS wr g gc k f xs ys) := fun _ _ h hb =>
  ⟨by rw [hb.cell (p := ⟨g, 2 + k * 3, none⟩) (World.block_lt_of_cell? _ _ h.1)]; exact h.1, by rw [hb.cell (p := ⟨g, 2 + k * 3 + 1, none⟩) (World.block_lt_of_cell? _ _ h.2.1)]; exact h.2.1, by rw [hb.cell (p := ⟨g, 2 + k * 3 + 2, none⟩) (World.block_lt_of_cell? _ _ h.2.2.1)]; exact h.2.2.1, h.2.2.2.1.below' hb, h.2.2.2.2.1.below' hb, there_below h.2.2.2.2.2.1 (by decide) hb, h.2.2.2.2.2.2.trans (hb.mono h.2.2.2.2.2.2.size)⟩

theorem KSR.stays (wr : World) (g gc k : Nat) (f : Fl) (xs ys : List Int) (p1 : Option Addr) (c1 : Nat) (p2 : Option Addr) (c2 : Nat) : Stays (fun U => KS wr g gc k f xs ys U ∧ OwS .u8 5 U wr.heap.size p1 f.tn c1 xs ∧ OwS .u8 5 U wr.heap.size p2 f.ln c2 ys) := fun U U' h hb =>
  ⟨KS.stays wr g gc k f xs ys U U' h.1 hb, h.2.1.below hb, h.2.2.below hb⟩

/-- A disk without bytes, else like d. -/
def dkN (d : Dk) (p' : Option Addr) (c' : Nat) : Dk := ⟨d.room, d.down, fun _ => ⟨none, 0, 0, none, 0, 0, false⟩, d.left, p', d.kn, c'⟩

set_option linter.unusedSimpArgs false in
theorem dkN_dc (V : World) (d : Dk) (p' : Option Addr) (c' : Nat) : DC (V.alloc (.cells #[.int .i64 d.room, .bool d.down, .slice none 0 0, .slice none 0 0, .bool false, .slice none 0 0, .slice none 0 0, .bool false, .slice none 0 0, .slice none 0 0, .bool false, .slice none 0 0, .slice none 0 0, .bool false, .slice none 0 0, .slice none 0 0, .bool false, .slice none 0 0, .slice none 0 0, .bool false, .slice none 0 0, .slice none 0 0, .bool false, .slice none 0 0, .slice none 0 0, .bool false, .int .i64 d.left, .slice p' d.kn c'] 85)) V.heap.size (dkN d p' c') := by
  refine ⟨fun j hj => ?_, fun j => World.frozen?_alloc_at _ _ _ _ rfl⟩
  unfold dkN
  match j, hj with
  | 0, _ => simp [dcell, fcell]
  | 1, _ => simp [dcell, fcell]
  | 2, _ => simp [dcell, fcell]
  | 3, _ => simp [dcell, fcell]
  | 4, _ => simp [dcell, fcell]
  | 5, _ => simp [dcell, fcell]
  | 6, _ => simp [dcell, fcell]
  | 7, _ => simp [dcell, fcell]
  | 8, _ => simp [dcell, fcell]
  | 9, _ => simp [dcell, fcell]
  | 10, _ => simp [dcell, fcell]
  | 11, _ => simp [dcell, fcell]
  | 12, _ => simp [dcell, fcell]
  | 13, _ => simp [dcell, fcell]
  | 14, _ => simp [dcell, fcell]
  | 15, _ => simp [dcell, fcell]
  | 16, _ => simp [dcell, fcell]
  | 17, _ => simp [dcell, fcell]
  | 18, _ => simp [dcell, fcell]
  | 19, _ => simp [dcell, fcell]
  | 20, _ => simp [dcell, fcell]
  | 21, _ => simp [dcell, fcell]
  | 22, _ => simp [dcell, fcell]
  | 23, _ => simp [dcell, fcell]
  | 24, _ => simp [dcell, fcell]
  | 25, _ => simp [dcell, fcell]
  | 26, _ => simp [dcell, fcell]
  | 27, _ => simp [dcell, fcell]
  | k + 28, h => exact absurd h (by omega)

/-- The first k files, the others empty. -/
def cutF (f : Nat → PF) (k : Nat) : Nat → PF := fun i => if i < k then f i else ⟨[], [], false⟩

theorem cutF_step (f : Nat → PF) (k : Nat) : upP (cutF f k) k (f k) = cutF f (k + 1) := by
  funext i
  unfold upP cutF
  by_cases h : i = k
  · subst h
    rw [if_pos rfl, if_pos (Nat.lt_succ_self _)]
  · rw [if_neg h]
    by_cases h2 : i < k
    · rw [if_pos h2, if_pos (by omega)]
    · rw [if_neg h2, if_neg (by omega)]

theorem DA.cut {w : World} {B : Nat} {own : Nat → Nat} {a g : Nat} {d : Dk} {m m' : PD} (h : DA w B own a g d m) (h1 : m'.room = m.room) (h2 : m'.down = m.down) (h3 : m'.left = m.left) (h4 : m'.keep = m.keep) (h5 : ∀ i, i < 8 → m'.f i = m.f i) : DA w B own a g d m' :=
  ⟨h.dc, h.room.trans h1.symm, h.down.trans h2.symm, h.left.trans h3.symm, fun i hi => by rw [h5 i hi]; exact h.cl i hi, fun i hi => by rw [h5 i hi]; exact h.fm i hi, by rw [h4]; exact h.keep, h.og, h.ok, h.bg, h.fr⟩

/-- A disk over what makes new memory, with new marks there. -/
theorem DA.grown {w w' : World} {B : Nat} {own own' : Nat → Nat} {a g : Nat} {d : Dk} {m : PD} (h : DA w B own a g d m) (hb : Below w.heap.size w w') (ho : ∀ k, k < w.heap.size → own' k = own k) (hf : ∀ k, w'.heap.size ≤ k → own' k = 0) : DA w' B own' a g d m :=
  h.ch (S := fun _ => False) (Ch.of_below hb _) (fun e => e) (fun _ _ _ _ e => e) (fun _ _ e => e) ho hf

theorem upO_old {w : World} {B : Nat} {k : IntKind} {e : TypeId} {V : World} {own : Nat → Nat} {p : Option Addr} {n c t : Nat} {xs : List Int} (h : OwS k e V B p n c xs) (hB : w.heap.size ≤ B) {j : Nat} (hj : j < w.heap.size) : upO own p t j = own j := by
  unfold upO
  rw [if_neg]
  intro e
  cases p with
  | none => cases e
  | some x =>
    injection e with e
    have := (h.lt rfl).1
    omega

theorem upO_new {B : Nat} {k : IntKind} {e : TypeId} {V : World} {own : Nat → Nat} {p : Option Addr} {n c t : Nat} {xs : List Int} (h : OwS k e V B p n c xs) {j : Nat} (hj : V.heap.size ≤ j) : upO own p t j = own j := by
  unfold upO
  rw [if_neg]
  intro e
  cases p with
  | none => cases e
  | some x =>
    injection e with e
    have := (h.lt rfl).2
    omega

/-- One file more is cloned. -/
theorem DA.cloned {wr V : World} {B : Nat} {own : Nat → Nat} {b gc : Nat} {d : Dk} {m : PD} (h : DA wr B own b gc d m) (hbV : Below wr.heap.size wr V) {i : Nat} (hi : i < 8) {p1 : Option Addr} {n1 c1 : Nat} {p2 : Option Addr} {n2 c2 : Nat} {cl : Bool} {xs ys : List Int}
    (o1 : OwS .u8 5 V wr.heap.size p1 n1 c1 xs) (o2 : OwS .u8 5 V wr.heap.size p2 n2 c2 ys) (hap : ∀ x, p2 = some x → ∀ y, p1 = some y → y.block ≠ x.block) (hpre : cl = false → ys <+: xs) (hB : B ≤ wr.heap.size) :
    DA (V.setCells gc (2 + i * 3) [.slice p1 n1 c1, .slice p2 n2 c2, .bool cl]) B (upO (upO own p1 (mark b i)) p2 (mark b i)) b gc { d with fl := upF d.fl i ⟨p1, n1, c1, p2, n2, c2, cl⟩ } { m with f := upP m.f i ⟨xs, ys, cl⟩ } ∧ (∀ k, k < wr.heap.size → upO (upO own p1 (mark b i)) p2 (mark b i) k = own k) ∧ (∀ k, V.heap.size ≤ k → upO (upO own p1 (mark b i)) p2 (mark b i) k = own k) := by
  have ho : ∀ k, k < wr.heap.size → upO (upO own p1 (mark b i)) p2 (mark b i) k = own k := fun k hk => (upO_old o2 (Nat.le_refl _) hk).trans (upO_old o1 (Nat.le_refl _) hk)
  have hn : ∀ k, V.heap.size ≤ k → upO (upO own p1 (mark b i)) p2 (mark b i) k = own k := fun k hk => (upO_new o2 hk).trans (upO_new o1 hk)
  have hV := h.below hbV
  have hd := ((hV.dc.setTold hi p1 n1 c1).setLasts hi p2 n2 c2).setCl hi cl
  dsimp only at hd
  rw [upF_same, upF_up, upF_same, upF_up] at hd
  dsimp only at hd
  have hc := Ch.setCells gc [.slice p1 n1 c1, .slice p2 n2 c2, .bool cl] (2 + i * 3) V
  have hcc := (Ch.of_below hbV (fun k => k = gc)).trans hc
  have hgc := h.dc.lt
  have t1 : ∀ x, p1 = some x → ¬ x.block = gc := fun x e => by have := (o1.lt e).1; omega
  have t2 : ∀ x, p2 = some x → ¬ x.block = gc := fun x e => by have := (o2.lt e).1; omega
  refine ⟨⟨hd, h.room, h.down, h.left, fun j hj => ?_, fun j hj => ?_, h.keep.ch hcc (fun x e => (h.ok x e).2.1), (ho gc hgc).trans h.og, fun x e => ⟨(ho _ (h.ok x e).2.2).trans (h.ok x e).1, (h.ok x e).2.1, Nat.lt_of_lt_of_le (h.ok x e).2.2 hcc.size⟩, h.bg, fun k hk => (hn k (Nat.le_trans hc.size hk)).trans (h.fr k (Nat.le_trans hcc.size hk))⟩, ho, hn⟩
  · show (upF d.fl i _ j).cl = (upP m.f i _ j).cl
    by_cases e : j = i
    · rw [e, upF_same, upP_same]
    · rw [upF_other _ _ e, upP_other _ _ e]; exact h.cl j hj
  · show FM _ B _ (mark b j) (upF d.fl i _ j) (upP m.f i _ j).told (upP m.f i _ j).lasts
    by_cases e : j = i
    · subst e
      rw [upF_same, upP_same]
      refine ⟨(o1.lower hB).ch hc t1, (o2.lower hB).ch hc t2, fun x e => ?_, fun x e => ?_, hpre, fun _ x y e1 e2 => hap y e2 x e1⟩
      · dsimp only at e
        subst e
        unfold upO
        split
        · rfl
        · exact if_pos rfl
      · dsimp only at e
        subst e
        exact upO_at _ _ _
    · rw [upF_other _ _ e, upP_other _ _ e]
      exact (h.fm j hj).ch hcc (fun k hk e2 => by
        subst e2
        rw [h.og] at hk
        exact mark_pos b j hk.symm) ho

set_option linter.unusedSimpArgs false in
set_option maxRecDepth 20000 in
set_option maxHeartbeats 2000000 in
theorem Clone_any (w : World) (B : Nat) (own : Nat → Nat) (a b g : Nat) (d : Dk) (m : PD) (s : Nat) (h : DA w B own a g d m) (hm : m.ok s) (hs : s ≤ 549755813888) (hB : B ≤ w.heap.size) :
    Calls Try.prog 29 #[.pointer (some ⟨g, 0, none⟩)] w fun e w' => ∃ gc own2 d2, e = .returned (.pointer (some ⟨gc, 0, none⟩)) ∧ w.heap.size ≤ gc ∧ gc < w'.heap.size ∧ DA w' B own2 b gc d2 m ∧ (∀ k, k < w.heap.size → own2 k = own k) ∧ (∀ x, d2.kp = some x → w.heap.size ≤ x.block) ∧ Below w.heap.size w w' := by
  have hM := made_any w g d h.dc (by rw [h.room]; exact hm.r0)
  have hS0 : QS w g d m.keep w.drew := QS.stays w g d m.keep _ _ ⟨h.dc, h.keep, Below.refl _ _⟩ (Below.refl _ _).drew
  have hkl : d.kn ≤ 1099511627776 := by rw [← h.keep.len]; have := hm.keep; omega
  go_enter Try.func29, Try.ntmps29
  go_wp2_with fail
  refine hM.mono ?_
  rintro e w1 ⟨rfl, rfl⟩
  go_wp2_with fail
  refine wp_region_det [0, 1, 2, 3, 4, 5, 6, 7, 8, 9, 10, 12] (QS w1 g d m.keep) (QS w1 g d m.keep) (by kernel_rfl) hS0 ?_
  refine wpDet_take ?vC0 (QS.stays w1 g d m.keep) (fun _ h => h) (i := 0) rfl (by kernel_rfl) (by kernel_rfl) (by kernel_rfl) (by kernel_rfl) (fun _ _ _ h => h) (Gives.value (by rfl) ?yC0) ?rC0
  case yC0 => (intro w' hSw; (try dsimp only at hSw); go_simp; try with_reducible rfl)
  (try simp only [Act.put, List.getElem_toArray, List.getElem_cons_zero, List.getElem_cons_succ, List.setIfInBounds_toArray, List.set_cons_zero, List.set_cons_succ])
  refine wpDet_take ?vC1 (QS.stays w1 g d m.keep) (fun _ h => h) (i := 1) rfl (by kernel_rfl) (by kernel_rfl) (by kernel_rfl) (by kernel_rfl) (fun _ _ _ h => h) (Gives.value (by rfl) ?yC1) ?rC1
  case yC1 => (intro w' hSw; (try dsimp only at hSw); go_simp; try with_reducible rfl)
  (try simp only [Act.put, List.getElem_toArray, List.getElem_cons_zero, List.getElem_cons_succ, List.setIfInBounds_toArray, List.set_cons_zero, List.set_cons_succ])
  refine wpDet_take ?vC2 (QS.stays w1 g d m.keep) (fun _ h => h) (i := 2) rfl (by kernel_rfl) (by kernel_rfl) (by kernel_rfl) (by kernel_rfl) (fun _ _ _ h => h) (Gives.value (by rfl) ?yC2) ?rC2
  case yC2 => (intro w' hSw; (try dsimp only at hSw); go_simp; try with_reducible rfl)
  (try simp only [Act.put, List.getElem_toArray, List.getElem_cons_zero, List.getElem_cons_succ, List.setIfInBounds_toArray, List.set_cons_zero, List.set_cons_succ])
  refine wpDet_take ?vC3 (QS.stays w1 g d m.keep) (fun _ h => h) (i := 3) rfl (by kernel_rfl) (by kernel_rfl) (by kernel_rfl) (by kernel_rfl) (fun _ _ _ h => h) (Gives.value (by rfl) ?yC3) ?rC3
  case yC3 => (intro w' hSw; have hq0 := hSw.1.room; (try dsimp only at hSw); go_simp; try with_reducible rfl)
  (try simp only [Act.put, List.getElem_toArray, List.getElem_cons_zero, List.getElem_cons_succ, List.setIfInBounds_toArray, List.set_cons_zero, List.set_cons_succ])
  refine wpDet_take ?vC4 (QS.stays w1 g d m.keep) (fun _ h => h) (i := 4) rfl (by kernel_rfl) (by kernel_rfl) (by kernel_rfl) (by kernel_rfl) (fun _ _ _ h => h) (Gives.value (by rfl) ?yC4) ?rC4
  case yC4 => (intro w' hSw; (try dsimp only at hSw); go_simp; try with_reducible rfl)
  (try simp only [Act.put, List.getElem_toArray, List.getElem_cons_zero, List.getElem_cons_succ, List.setIfInBounds_toArray, List.set_cons_zero, List.set_cons_succ])
  refine wpDet_take ?vC5 (QS.stays w1 g d m.keep) (fun _ h => h) (i := 5) rfl (by kernel_rfl) (by kernel_rfl) (by kernel_rfl) (by kernel_rfl) (fun _ _ _ h => h) (Gives.value (by rfl) ?yC5) ?rC5
  case yC5 => (intro w' hSw; (try dsimp only at hSw); go_simp; try with_reducible rfl)
  (try simp only [Act.put, List.getElem_toArray, List.getElem_cons_zero, List.getElem_cons_succ, List.setIfInBounds_toArray, List.set_cons_zero, List.set_cons_succ])
  refine wpDet_take ?vC6 (QS.stays w1 g d m.keep) (fun _ h => h) (i := 6) rfl (by kernel_rfl) (by kernel_rfl) (by kernel_rfl) (by kernel_rfl) (fun _ _ _ h => h) (Gives.value (by rfl) ?yC6) ?rC6
  case yC6 => (intro w' hSw; (try dsimp only at hSw); go_simp; try with_reducible rfl)
  (try simp only [Act.put, List.getElem_toArray, List.getElem_cons_zero, List.getElem_cons_succ, List.setIfInBounds_toArray, List.set_cons_zero, List.set_cons_succ])
  refine wpDet_take ?vC7 (QS.stays w1 g d m.keep) (fun _ h => h) (i := 7) rfl (by kernel_rfl) (by kernel_rfl) (by kernel_rfl) (by kernel_rfl) (fun _ _ _ h => h) (Gives.value (by rfl) ?yC7) ?rC7
  case yC7 => (intro w' hSw; have hq0 := hSw.1.down; (try dsimp only at hSw); go_simp; try with_reducible rfl)
  (try simp only [Act.put, List.getElem_toArray, List.getElem_cons_zero, List.getElem_cons_succ, List.setIfInBounds_toArray, List.set_cons_zero, List.set_cons_succ])
  refine wpDet_take ?vC8 (QS.stays w1 g d m.keep) (fun _ h => h) (i := 8) rfl (by kernel_rfl) (by kernel_rfl) (by kernel_rfl) (by kernel_rfl) (fun _ _ _ h => h) (Gives.value (by rfl) ?yC8) ?rC8
  case yC8 => (intro w' hSw; (try dsimp only at hSw); go_simp; try with_reducible rfl)
  (try simp only [Act.put, List.getElem_toArray, List.getElem_cons_zero, List.getElem_cons_succ, List.setIfInBounds_toArray, List.set_cons_zero, List.set_cons_succ])
  refine wpDet_take ?vC9 (QS.stays w1 g d m.keep) (fun _ h => h) (i := 9) rfl (by kernel_rfl) (by kernel_rfl) (by kernel_rfl) (by kernel_rfl) (fun _ _ _ h => h) (Gives.value (by rfl) ?yC9) ?rC9
  case yC9 => (intro w' hSw; (try dsimp only at hSw); go_simp; try with_reducible rfl)
  (try simp only [Act.put, List.getElem_toArray, List.getElem_cons_zero, List.getElem_cons_succ, List.setIfInBounds_toArray, List.set_cons_zero, List.set_cons_succ])
  refine wpDet_take ?vC10 (QS.stays w1 g d m.keep) (fun _ h => h) (i := 10) rfl (by kernel_rfl) (by kernel_rfl) (by kernel_rfl) (by kernel_rfl) (fun _ _ _ h => h) (Gives.value (by rfl) ?yC10) ?rC10
  case yC10 => (intro w' hSw; (try dsimp only at hSw); go_simp; try with_reducible rfl)
  (try simp only [Act.put, List.getElem_toArray, List.getElem_cons_zero, List.getElem_cons_succ, List.setIfInBounds_toArray, List.set_cons_zero, List.set_cons_succ])
  refine wpDet_ready (rs := [11]) (by kernel_rfl) (by simp) (AllDet.cons rfl (fun V hV K hK => ?_) AllDet.nil)
  rw [if_pos (by rfl)]
  have hC := fclone_at V g 26 _ _ _ _ m.keep hV.1.left hV.1.keep hV.2.1 hkl
  refine wp_enterX 52 #[.pointer (some ⟨g, 26, none⟩)] (by first | (go_simp; done) | (go_simp; rfl)) (fun v V' => ∃ p' c', v = .agg #[.int .i64 d.left, .slice p' d.kn c'] ∧ Rd .i64 V' p' d.kn c' m.keep ∧ Below V.heap.size V V' ∧ (∀ x, p' = some x → V.heap.size ≤ x.block ∧ x.block < V'.heap.size)) (hC.mono fun e V' ⟨p', c', h1, h2⟩ => ⟨_, h1, p', c', rfl, h2⟩) ?_
  rintro v V' ⟨p', c', rfl, h2, h3, h4⟩
  have hst := QS.stays w1 g d m.keep V V' hV h3
  refine hK.out (fun U => QS w1 g d m.keep U ∧ Rd .i64 U p' d.kn c' m.keep ∧ (∀ x, p' = some x → w1.heap.size ≤ x.block ∧ x.block < U.heap.size)) _ _ (QSR.stays w1 g d m.keep p' c') (fun _ _ h => h.1) ⟨hst, h2, fun x e => ⟨Nat.le_trans hV.2.2.size (h4 x e).1, (h4 x e).2⟩⟩ ?_
  clear hK K hC hV h2 h3 h4 hst
  (try simp only [Act.put, List.getElem_toArray, List.getElem_cons_zero, List.getElem_cons_succ, List.setIfInBounds_toArray, List.set_cons_zero, List.set_cons_succ])
  refine wpDet_take ?vC12 (QSR.stays w1 g d m.keep p' c') (fun _ h => h.1) (i := 12) rfl (by kernel_rfl) (by kernel_rfl) (by kernel_rfl) (by kernel_rfl) (fun _ _ _ h => h) (Gives.value (by rfl) ?yC12) ?rC12
  case yC12 => (intro w' hSw; (try dsimp only at hSw); go_simp; try with_reducible rfl)
  (try simp only [Act.put, List.getElem_toArray, List.getElem_cons_zero, List.getElem_cons_succ, List.setIfInBounds_toArray, List.set_cons_zero, List.set_cons_succ])
  refine wpDet_ready (rs := [13]) (by kernel_rfl) (by simp) (AllDet.cons rfl (fun V hV K hK => ?_) AllDet.nil)
  rw [if_pos (by rfl)]
  refine wp_runs (v := .pointer (some ⟨V.heap.size, 0, none⟩)) (w' := V.alloc (.cells #[.int .i64 d.room, .bool d.down, .slice none 0 0, .slice none 0 0, .bool false, .slice none 0 0, .slice none 0 0, .bool false, .slice none 0 0, .slice none 0 0, .bool false, .slice none 0 0, .slice none 0 0, .bool false, .slice none 0 0, .slice none 0 0, .bool false, .slice none 0 0, .slice none 0 0, .bool false, .slice none 0 0, .slice none 0 0, .bool false, .slice none 0 0, .slice none 0 0, .bool false, .int .i64 d.left, .slice p' d.kn c'] 85)) (by first | (go_simp; done) | (go_simp; rfl)) ?_
  refine hK.out (fun U => QS w1 g d m.keep U ∧ Below (V.alloc (.cells #[.int .i64 d.room, .bool d.down, .slice none 0 0, .slice none 0 0, .bool false, .slice none 0 0, .slice none 0 0, .bool false, .slice none 0 0, .slice none 0 0, .bool false, .slice none 0 0, .slice none 0 0, .bool false, .slice none 0 0, .slice none 0 0, .bool false, .slice none 0 0, .slice none 0 0, .bool false, .slice none 0 0, .slice none 0 0, .bool false, .slice none 0 0, .slice none 0 0, .bool false, .int .i64 d.left, .slice p' d.kn c'] 85)).heap.size (V.alloc (.cells #[.int .i64 d.room, .bool d.down, .slice none 0 0, .slice none 0 0, .bool false, .slice none 0 0, .slice none 0 0, .bool false, .slice none 0 0, .slice none 0 0, .bool false, .slice none 0 0, .slice none 0 0, .bool false, .slice none 0 0, .slice none 0 0, .bool false, .slice none 0 0, .slice none 0 0, .bool false, .slice none 0 0, .slice none 0 0, .bool false, .slice none 0 0, .slice none 0 0, .bool false, .int .i64 d.left, .slice p' d.kn c'] 85)) U) _ _ (fun U U' h hb => ⟨QS.stays w1 g d m.keep U U' h.1 hb, h.2.trans (hb.mono h.2.size)⟩) (fun _ _ h => h.1) ⟨QS.stays w1 g d m.keep V _ hV.1 ((Below.refl _ _).alloc (Nat.le_refl _) _), Below.refl _ _⟩ ?_
  clear hK K
  (try simp only [Act.put, List.getElem_toArray, List.getElem_cons_zero, List.getElem_cons_succ, List.setIfInBounds_toArray, List.set_cons_zero, List.set_cons_succ])
  refine wpDet_ready (rs := [14]) (by kernel_rfl) (by simp) (AllDet.cons rfl (fun U hU K hK => ?_) AllDet.nil)
  rw [if_pos (by rfl)]
  refine wp_runs (v := .pointer (some ⟨V.heap.size, 0, none⟩)) (w' := U) (by first | (go_simp; done) | (go_simp; rfl)) ?_
  refine hK.out (fun U => QS w1 g d m.keep U ∧ Below (V.alloc (.cells #[.int .i64 d.room, .bool d.down, .slice none 0 0, .slice none 0 0, .bool false, .slice none 0 0, .slice none 0 0, .bool false, .slice none 0 0, .slice none 0 0, .bool false, .slice none 0 0, .slice none 0 0, .bool false, .slice none 0 0, .slice none 0 0, .bool false, .slice none 0 0, .slice none 0 0, .bool false, .slice none 0 0, .slice none 0 0, .bool false, .slice none 0 0, .slice none 0 0, .bool false, .int .i64 d.left, .slice p' d.kn c'] 85)).heap.size (V.alloc (.cells #[.int .i64 d.room, .bool d.down, .slice none 0 0, .slice none 0 0, .bool false, .slice none 0 0, .slice none 0 0, .bool false, .slice none 0 0, .slice none 0 0, .bool false, .slice none 0 0, .slice none 0 0, .bool false, .slice none 0 0, .slice none 0 0, .bool false, .slice none 0 0, .slice none 0 0, .bool false, .slice none 0 0, .slice none 0 0, .bool false, .slice none 0 0, .slice none 0 0, .bool false, .int .i64 d.left, .slice p' d.kn c'] 85)) U) _ _ (fun U U' h hb => ⟨QS.stays w1 g d m.keep U U' h.1 hb, h.2.trans (hb.mono h.2.size)⟩) (fun _ _ h => h.1) hU ?_
  clear hK K hU U
  (try simp only [Act.put, List.getElem_toArray, List.getElem_cons_zero, List.getElem_cons_succ, List.setIfInBounds_toArray, List.set_cons_zero, List.set_cons_succ])
  refine wpDet_done (by kernel_rfl) (fun w8 hw88 => ?_) _
  have hw8 := hw88.2
  clear hw88
  have hbV := hV.1.2.2
  have hV0 := (Below.refl V.heap.size V).alloc (Nat.le_refl _) (.cells #[.int .i64 d.room, .bool d.down, .slice none 0 0, .slice none 0 0, .bool false, .slice none 0 0, .slice none 0 0, .bool false, .slice none 0 0, .slice none 0 0, .bool false, .slice none 0 0, .slice none 0 0, .bool false, .slice none 0 0, .slice none 0 0, .bool false, .slice none 0 0, .slice none 0 0, .bool false, .slice none 0 0, .slice none 0 0, .bool false, .slice none 0 0, .slice none 0 0, .bool false, .int .i64 d.left, .slice p' d.kn c'] 85)
  have hV1 := hbV.trans (hV0.mono hbV.size)
  have hbW := hV1.trans (hw8.mono hV1.size)
  have hdc := (dkN_dc V d p' c').below hw8 (dkN_dc V d p' c').lt
  have hgc := hdc.lt
  have hrk := (hV.2.1.below' hV0).below' hw8
  have hpk := hV.2.2
  have hg1 : w1.heap.size ≤ V.heap.size := hbV.size
  have hN : DA w8 B own b V.heap.size (dkN d p' c') { m with f := cutF m.f 0 } :=
    ⟨hdc, h.room, h.down, h.left, fun _ _ => rfl, fun i _ => ⟨OwS.nil _ _ _ _, OwS.nil _ _ _ _, (fun _ e => by cases e), (fun _ e => by cases e), (fun _ => List.prefix_refl _), (fun e => by cases e)⟩, hrk, h.fr _ hg1, fun x e => ⟨h.fr _ (hpk x e).1, Nat.ne_of_lt (hpk x e).2, Nat.lt_trans (hpk x e).2 hgc⟩, Nat.le_trans hB hg1, fun k hk => h.fr k (Nat.le_trans hbW.size hk)⟩
  have hO := h.below hbW
  have hkp : ∀ x, (dkN d p' c').kp = some x → w1.heap.size ≤ x.block := fun x e => (hpk x e).1
  clear hS0 hw8 hV hrk hpk hdc hV0 hV1 hbV hM
  generalize V.heap.size = gc at *
  clear V
  go_wp2_with fail
  go_loopw [22] (fun ix wr => ∃ (k : Nat) (own2 : Nat → Nat) (d2 : Dk), k ≤ 8 ∧ ix = .int .i64 k ∧ DA wr B own2 b gc d2 { m with f := cutF m.f k } ∧ DA wr B own2 a g d m ∧ (∀ j, j < w1.heap.size → own2 j = own j) ∧ (∀ x, d2.kp = some x → w1.heap.size ≤ x.block) ∧ Below w1.heap.size w1 wr) (fun ix _ => 8 - (intOf ix).toNat)
  case atStart => exact ⟨0, own, _, Nat.zero_le _, rfl, hN, hO, fun _ _ => rfl, hkp, hbW⟩
  case round =>
    clear hN hO hbW hgc hkp
    obtain ⟨k, own2, d2, hk, rfl, hN, hO, ho, hkp, hb⟩ := hrel
    by_cases h8 : k < 8
    · have hki : (k : Int) < 8 := by omega
      have hfm := hO.fm k h8
      have hl1 : (d.fl k).tn ≤ 1099511627776 := by rw [fl_tn hO h8]; have := hm.told k h8; omega
      have hl2 : (d.fl k).ln ≤ 1099511627776 := by rw [← hfm.lasts.len]; have := hm.lasts k h8; omega
      have hTh : wr.there gc (2 + k * 3) 3 := fun j hj => by
        rw [hN.dc.cells (2 + k * 3 + j) (by omega)]
        exact ⟨rfl, hN.dc.free _⟩
      have hS0 : KS wr g gc k (d.fl k) (m.f k).told (m.f k).lasts wr.drew := KS.stays wr g gc k (d.fl k) (m.f k).told (m.f k).lasts _ _ ⟨hO.dc.told h8, hO.dc.lasts h8, hO.dc.cl h8, hfm.told.rd, hfm.lasts.rd, hTh, Below.refl _ _⟩ (Below.refl _ _).drew
      have hcl := hO.cl k h8
      have hbeg := hfm.begins
      have hgN := hN.dc.lt
      have hgO := hO.dc.lt
      have hne : g ≠ gc := fun e => by
        have := h.dc.lt
        omega
      have HW : Hid (w1.heap.size ≤ gc) := hg1
      clear hTh hfm
      generalize d.fl k = f at *
      generalize hxs : (m.f k).told = xs at *
      generalize hys : (m.f k).lasts = ys at *
      go_wp2_with fail
      refine wp_region_det [0, 1, 2, 3, 4, 5, 6, 8, 9, 10] (fun _ => True) (KS wr g gc k f xs ys) (by kernel_rfl) hS0 ?_
      refine wpDet_take ?vG0 (KS.stays wr g gc k f xs ys) (fun _ _ => trivial) (i := 0) rfl (by kernel_rfl) (by kernel_rfl) (by kernel_rfl) (by kernel_rfl) (fun _ _ _ h => h) (Gives.value (by rfl) ?yG0) ?rG0
      case yG0 => (intro w' hSw; (try dsimp only at hSw); go_simp; try with_reducible rfl)
      (try simp only [Act.put, List.getElem_toArray, List.getElem_cons_zero, List.getElem_cons_succ, List.setIfInBounds_toArray, List.set_cons_zero, List.set_cons_succ])
      refine wpDet_take ?vG1 (KS.stays wr g gc k f xs ys) (fun _ _ => trivial) (i := 1) rfl (by kernel_rfl) (by kernel_rfl) (by kernel_rfl) (by kernel_rfl) (fun _ _ _ h => h) (Gives.value (by rfl) ?yG1) ?rG1
      case yG1 => (intro w' hSw; (try dsimp only at hSw); go_simp; try with_reducible rfl)
      (try simp only [Act.put, List.getElem_toArray, List.getElem_cons_zero, List.getElem_cons_succ, List.setIfInBounds_toArray, List.set_cons_zero, List.set_cons_succ])
      refine wpDet_take ?vG2 (KS.stays wr g gc k f xs ys) (fun _ _ => trivial) (i := 2) rfl (by kernel_rfl) (by kernel_rfl) (by kernel_rfl) (by kernel_rfl) (fun _ _ _ h => h) (Gives.value (by rfl) ?yG2) ?rG2
      case yG2 => (intro w' hSw; (try dsimp only at hSw); go_simp; try with_reducible rfl)
      (try simp only [Act.put, List.getElem_toArray, List.getElem_cons_zero, List.getElem_cons_succ, List.setIfInBounds_toArray, List.set_cons_zero, List.set_cons_succ])
      refine wpDet_take ?vG3 (KS.stays wr g gc k f xs ys) (fun _ _ => trivial) (i := 3) rfl (by kernel_rfl) (by kernel_rfl) (by kernel_rfl) (by kernel_rfl) (fun _ _ _ h => h) (Gives.value (by rfl) ?yG3) ?rG3
      case yG3 => (intro w' hSw; (try dsimp only at hSw); go_simp; try with_reducible rfl)
      (try simp only [Act.put, List.getElem_toArray, List.getElem_cons_zero, List.getElem_cons_succ, List.setIfInBounds_toArray, List.set_cons_zero, List.set_cons_succ])
      refine wpDet_take ?vG4 (KS.stays wr g gc k f xs ys) (fun _ _ => trivial) (i := 4) rfl (by kernel_rfl) (by kernel_rfl) (by kernel_rfl) (by kernel_rfl) (fun _ _ _ h => h) (Gives.value (by rfl) ?yG4) ?rG4
      case yG4 => (intro w' hSw; (try dsimp only at hSw); go_simp; try with_reducible rfl)
      (try simp only [Act.put, List.getElem_toArray, List.getElem_cons_zero, List.getElem_cons_succ, List.setIfInBounds_toArray, List.set_cons_zero, List.set_cons_succ])
      refine wpDet_take ?vG5 (KS.stays wr g gc k f xs ys) (fun _ _ => trivial) (i := 5) rfl (by kernel_rfl) (by kernel_rfl) (by kernel_rfl) (by kernel_rfl) (fun _ _ _ h => h) (Gives.value (by rfl) ?yG5) ?rG5
      case yG5 => (intro w' hSw; (try dsimp only at hSw); go_simp; try with_reducible rfl)
      (try simp only [Act.put, List.getElem_toArray, List.getElem_cons_zero, List.getElem_cons_succ, List.setIfInBounds_toArray, List.set_cons_zero, List.set_cons_succ])
      refine wpDet_take ?vG6 (KS.stays wr g gc k f xs ys) (fun _ _ => trivial) (i := 6) rfl (by kernel_rfl) (by kernel_rfl) (by kernel_rfl) (by kernel_rfl) (fun _ _ _ h => h) (Gives.value (by rfl) ?yG6) ?rG6
      case yG6 => (intro w' hSw; (try dsimp only at hSw); go_simp; try with_reducible rfl)
      (try simp only [Act.put, List.getElem_toArray, List.getElem_cons_zero, List.getElem_cons_succ, List.setIfInBounds_toArray, List.set_cons_zero, List.set_cons_succ])
      refine wpDet_take ?vG8 (KS.stays wr g gc k f xs ys) (fun _ _ => trivial) (i := 8) rfl (by kernel_rfl) (by kernel_rfl) (by kernel_rfl) (by kernel_rfl) (fun _ _ _ h => h) (Gives.value (by rfl) ?yG8) ?rG8
      case yG8 => (intro w' hSw; (try dsimp only at hSw); go_simp; try with_reducible rfl)
      (try simp only [Act.put, List.getElem_toArray, List.getElem_cons_zero, List.getElem_cons_succ, List.setIfInBounds_toArray, List.set_cons_zero, List.set_cons_succ])
      refine wpDet_take ?vG9 (KS.stays wr g gc k f xs ys) (fun _ _ => trivial) (i := 9) rfl (by kernel_rfl) (by kernel_rfl) (by kernel_rfl) (by kernel_rfl) (fun _ _ _ h => h) (Gives.value (by rfl) ?yG9) ?rG9
      case yG9 => (intro w' hSw; (try dsimp only at hSw); go_simp; try with_reducible rfl)
      (try simp only [Act.put, List.getElem_toArray, List.getElem_cons_zero, List.getElem_cons_succ, List.setIfInBounds_toArray, List.set_cons_zero, List.set_cons_succ])
      refine wpDet_ready (rs := [7]) (by kernel_rfl) (by simp) (AllDet.cons rfl (fun V hV K hK => ?_) AllDet.nil)
      rw [if_pos (by rfl)]
      have hC := flclone_any V g (2 + k * 3) f xs ys hV.1 hV.2.1 hV.2.2.1 hV.2.2.2.1 hV.2.2.2.2.1 hl1 hl2
      refine wp_enterX 64 #[.pointer (some ⟨g, 2 + k * 3, none⟩)] (by first | (go_simp; done) | (go_simp; rfl)) (fun v V' => ∃ p1 c1 p2 c2, v = .agg #[.slice p1 f.tn c1, .slice p2 f.ln c2, .bool f.cl] ∧ OwS .u8 5 V' V.heap.size p1 f.tn c1 xs ∧ OwS .u8 5 V' V.heap.size p2 f.ln c2 ys ∧ Below V.heap.size V V' ∧ (∀ x, p2 = some x → ∀ y, p1 = some y → y.block ≠ x.block)) (hC.mono fun e V' ⟨p1, c1, p2, c2, h1, h2⟩ => ⟨_, h1, p1, c1, p2, c2, rfl, h2⟩) ?_
      rintro v V' ⟨p1, c1, p2, c2, rfl, o1, o2, h3, h4⟩
      have hst := KS.stays wr g gc k f xs ys V V' hV h3
      refine hK.out (fun U => KS wr g gc k f xs ys U ∧ OwS .u8 5 U wr.heap.size p1 f.tn c1 xs ∧ OwS .u8 5 U wr.heap.size p2 f.ln c2 ys) _ _ (KSR.stays wr g gc k f xs ys p1 c1 p2 c2) (fun _ _ _ => trivial) ⟨hst, o1.lower hV.2.2.2.2.2.2.size, o2.lower hV.2.2.2.2.2.2.size⟩ ?_
      clear hK K hC hV o1 o2 h3 hst
      (try simp only [Act.put, List.getElem_toArray, List.getElem_cons_zero, List.getElem_cons_succ, List.setIfInBounds_toArray, List.set_cons_zero, List.set_cons_succ])
      refine wpDet_take ?vG10 (KSR.stays wr g gc k f xs ys p1 c1 p2 c2) (fun _ _ => trivial) (i := 10) rfl (by kernel_rfl) (by kernel_rfl) (by kernel_rfl) (by kernel_rfl) (fun _ _ _ h => h) (Gives.value (by rfl) ?yG10) ?rG10
      case yG10 => (intro w' hSw; (try dsimp only at hSw); go_simp; try with_reducible rfl)
      (try simp only [Act.put, List.getElem_toArray, List.getElem_cons_zero, List.getElem_cons_succ, List.setIfInBounds_toArray, List.set_cons_zero, List.set_cons_succ])
      refine wpDet_ready (rs := [11]) (by kernel_rfl) (by simp) (AllDet.cons rfl (fun V hV K hK => ?_) AllDet.nil)
      rw [if_pos (by rfl)]
      refine wp_store_mid 80 _ _ rfl gc (2 + k * 3) #[.slice p1 f.tn c1, .slice p2 f.ln c2, .bool f.cl] rfl rfl hV.1.2.2.2.2.2.1 sizeFi (oneFi _ _ _ _ _ _ _) ?_
      generalize hU0 : V.setCells gc (2 + k * 3) #[.slice p1 f.tn c1, .slice p2 f.ln c2, .bool f.cl].toList = U0
      refine hK.out (fun U => Below U0.heap.size U0 U) _ U0 (fun U U' h hb => h.trans (hb.mono h.size)) (fun _ _ _ => trivial) (Below.refl _ _) ?_
      clear hK K
      (try simp only [Act.put, List.getElem_toArray, List.getElem_cons_zero, List.getElem_cons_succ, List.setIfInBounds_toArray, List.set_cons_zero, List.set_cons_succ])
      refine wpDet_done (by kernel_rfl) (fun w8 hw8 => ?_) _
      have hbV := hV.1.2.2.2.2.2.2
      change V.setCells gc (2 + k * 3) [.slice p1 f.tn c1, .slice p2 f.ln c2, .bool f.cl] = U0 at hU0
      obtain ⟨hD3, ho3, hn3⟩ := hN.cloned hbV h8 hV.2.1 hV.2.2 h4 hbeg (Nat.le_trans hB hb.size)
      have hc3 := Ch.setCells gc [.slice p1 f.tn c1, .slice p2 f.ln c2, .bool f.cl] (2 + k * 3) V
      have hcW := (Ch.of_below hbV (fun k => k = gc)).trans hc3
      have hO3 := hO.ch hcW hne (fun i j _ hj e => by
        subst e
        rw [hN.og] at hj
        exact mark_pos a i hj.symm) (fun x e e2 => by
        have h1 := (h.ok x e).2.2
        omega) ho3 (fun j hj => (hn3 j (Nat.le_trans hc3.size hj)).trans (hN.fr j (Nat.le_trans hcW.size hj)))
      have hB3 := hb.trans (hcW.below hb.size (fun j e => by rw [e]; exact hg1))
      rw [hU0] at hD3 hO3 hB3
      have hD4 := hD3.below hw8
      have hO4 := hO3.below hw8
      have hB4 := hB3.trans (hw8.mono hB3.size)
      dsimp only at hD4
      have ef : (⟨xs, ys, f.cl⟩ : PF) = m.f k := by rw [hcl, ← hxs, ← hys]
      rw [ef, cutF_step] at hD4
      clear hD3 hO3 hB3 hc3 hcW hV hbV hw8
      go_wp2_with fail
      go_roundw
      case rel => exact ⟨k + 1, _, _, by omega, by go_num, hD4, hO4, fun j hj => (ho3 j (Nat.lt_of_lt_of_le hj hb.size)).trans (ho j hj), hkp, hB4⟩
      case measure => simp [intOf]; omega
    · obtain rfl : k = 8 := by omega
      have hgN := hN.dc.lt
      have hF := hN.cut (m' := m) rfl rfl rfl rfl (fun i hi => by show m.f i = cutF m.f 8 i; unfold cutF; rw [if_pos hi])
      clear hN hO
      go_wp2_with fail
      go_ret
      exact ⟨gc, own2, d2, rfl, hg1, hgN, hF, ho, hkp, hb⟩

end Go.Proofs.Ytpjhadaiodnnaaa.M
