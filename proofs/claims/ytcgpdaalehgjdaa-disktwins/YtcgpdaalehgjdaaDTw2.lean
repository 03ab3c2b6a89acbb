/-
  Own text: two disks beside one another, and a stretch of memory that neither has.
-/
import Derived.Test.YtcgpdaalehgjdaaDTw
namespace Go.Proofs.Ytcgpdaalehgjdaa.M
open Go.ChangeShapes Go.WideShapes Go.ChangeAt Go.RowKit

/-- One block marked as another's. -/
def upX (own : Nat → Nat) (g : Nat) : Nat → Nat := fun k => if k = g then farM else own k
theorem upX_at (own : Nat → Nat) (g : Nat) : upX own g g = farM := if_pos rfl
theorem upX_ne (own : Nat → Nat) {g k : Nat} (h : k ≠ g) : upX own g k = own k := if_neg h

/-- One block without a mark. -/
def dnX (own : Nat → Nat) (g : Nat) : Nat → Nat := fun k => if k = g then 0 else own k
theorem dnX_at (own : Nat → Nat) (g : Nat) : dnX own g g = 0 := if_pos rfl
theorem dnX_ne (own : Nat → Nat) {g k : Nat} (h : k ≠ g) : dnX own g k = own k := if_neg h

theorem up_dn {own : Nat → Nat} {g : Nat} (h : own g = farM) : upX (dnX own g) g = own := by
  funext k
  by_cases e : k = g
  · rw [e, upX_at, h]
  · rw [upX_ne _ e, dnX_ne _ e]

theorem mark_far {a i : Nat} (ha : a ≤ 100) (hi : i < 8) : mark a i ≠ farM := by
  unfold mark farM
  omega

/-- Two disks, each apart from the other; blocks lo to hi are neither's. -/
structure Tw (B a1 g1 a2 g2 lo hi : Nat) (own : Nat → Nat) (V : World) (m1 m2 : PD) : Prop where
  d1 : ∃ d, DA V B (upX own g2) a1 g1 d m1
  d2 : ∃ d, DA V B (upX own g1) a2 g2 d m2
  ne : g1 ≠ g2
  z1 : own g1 = 0
  z2 : own g2 = 0
  low : ∀ j, j < B → own j = 0
  mid : ∀ j, lo ≤ j → j < hi → own j = farM
  l1 : g1 < lo
  l2 : g2 < lo
  s1 : lo ≤ hi
  s2 : hi ≤ V.heap.size
  b1 : B ≤ g1
  b2 : B ≤ g2

theorem Tw.swap {B a1 g1 a2 g2 lo hi : Nat} {own : Nat → Nat} {V : World} {m1 m2 : PD} (h : Tw B a1 g1 a2 g2 lo hi own V m1 m2) : Tw B a2 g2 a1 g1 lo hi own V m2 m1 :=
  ⟨h.d2, h.d1, fun e => h.ne e.symm, h.z2, h.z1, h.low, h.mid, h.l2, h.l1, h.s1, h.s2, h.b2, h.b1⟩

theorem Tw.below {B a1 g1 a2 g2 lo hi : Nat} {own : Nat → Nat} {V V' : World} {m1 m2 : PD} (h : Tw B a1 g1 a2 g2 lo hi own V m1 m2) (hb : Below V.heap.size V V') : Tw B a1 g1 a2 g2 lo hi own V' m1 m2 := by
  obtain ⟨e1, k1⟩ := h.d1
  obtain ⟨e2, k2⟩ := h.d2
  exact ⟨⟨e1, k1.below hb⟩, ⟨e2, k2.below hb⟩, h.ne, h.z1, h.z2, h.low, h.mid, h.l1, h.l2, h.s1, Nat.le_trans h.s2 hb.size, h.b1, h.b2⟩

/-- The second disk over what the first one does. -/
theorem Tw.other {B a1 g1 a2 g2 lo hi : Nat} {own : Nat → Nat} {V V' : World} {m1 m2 : PD} (h : Tw B a1 g1 a2 g2 lo hi own V m1 m2) (h2 : a2 ≤ 100) (ha : a1 ≠ a2) {own2 : Nat → Nat} (hc : Ch (Mine (upX own g2) a1 g1) V V') (h1 : a1 ≤ 100) (ho : ∀ k, k < V.heap.size → own2 k = upX own g2 k) (hf : ∀ k, V'.heap.size ≤ k → own2 k = 0) :
    ∃ d, DA V' B (upX (dnX own2 g2) g1) a2 g2 d m2 := by
  obtain ⟨e, k⟩ := h.d2
  have hg1 : g1 < V.heap.size := Nat.lt_of_lt_of_le h.l1 (Nat.le_trans h.s1 h.s2)
  have hg2 : g2 < V.heap.size := Nat.lt_of_lt_of_le h.l2 (Nat.le_trans h.s1 h.s2)
  refine ⟨e, k.ch hc ?_ (fun i j hi hj => ?_) (fun x hx => ?_) (fun j hj => ?_) (fun j hj => ?_)⟩
  · rintro (e | ⟨i, hi, e⟩)
    · exact h.ne e.symm
    · rw [upX_at] at e
      exact mark_far h1 hi e.symm
  · have hj1 : j ≠ g1 := fun e => by
      rw [e, upX_at] at hj
      exact mark_far h2 hi hj.symm
    rw [upX_ne _ hj1] at hj
    rintro (e | ⟨i2, hi2, e⟩)
    · exact hj1 e
    · have hj2 : j ≠ g2 := fun e2 => by
        rw [e2, h.z2] at hj
        exact mark_pos a2 i hj.symm
      rw [upX_ne _ hj2, hj] at e
      exact mark_apart hi hi2 (fun e => ha e.symm) e
  · have hok := k.ok x hx
    have hj1 : x.block ≠ g1 := fun e => by
      have := hok.1
      rw [e, upX_at] at this
      cases this
    have h0 : own x.block = 0 := by
      have := hok.1
      rw [upX_ne _ hj1] at this
      exact this
    refine not_mine hj1 ?_
    rw [upX_ne _ hok.2.1]
    exact h0
  · by_cases e1 : j = g1
    · rw [e1, upX_at, upX_at]
    · rw [upX_ne _ e1, upX_ne _ e1]
      by_cases e2 : j = g2
      · rw [e2, dnX_at, h.z2]
      · rw [dnX_ne _ e2, ho j hj, upX_ne _ e2]
  · have z := hc.size
    rw [upX_ne _ (by omega), dnX_ne _ (by omega)]
    exact hf j hj

/-- The first disk does something. -/
theorem Tw.step {B a1 g1 a2 g2 lo hi : Nat} {own : Nat → Nat} {V V' : World} {m1 m2 m1' : PD} (h : Tw B a1 g1 a2 g2 lo hi own V m1 m2) (h1 : a1 ≤ 100) (h2 : a2 ≤ 100) (ha : a1 ≠ a2) (hA : After B a1 g1 (upX own g2) V V' m1') :
    (∃ own', Tw B a1 g1 a2 g2 lo hi own' V' m1' m2) ∧ Ch (fun k => k < lo ∨ hi ≤ k) V V' ∧ Below B V V' := by
  obtain ⟨own2, d2, hD, ho, hc⟩ := hA
  have hg1 : g1 < V.heap.size := Nat.lt_of_lt_of_le h.l1 (Nat.le_trans h.s1 h.s2)
  have hg2 : g2 < V.heap.size := Nat.lt_of_lt_of_le h.l2 (Nat.le_trans h.s1 h.s2)
  have e2 : own2 g2 = farM := (ho g2 hg2).trans (upX_at _ _)
  have hoth := h.other h2 ha hc h1 ho hD.fr
  have base : ∀ j, j < V.heap.size → dnX own2 g2 j = own j := fun j hj => by
    by_cases e : j = g2
    · rw [e, dnX_at, h.z2]
    · rw [dnX_ne _ e, ho j hj, upX_ne _ e]
  have hlo := h.l1
  have hl2 := h.l2
  have hs1 := h.s1
  have hs2 := h.s2
  refine ⟨⟨dnX own2 g2, ⟨d2, by rw [up_dn e2]; exact hD⟩, hoth, h.ne, (base g1 hg1).trans h.z1, dnX_at _ _, fun j hj => (base j (by have := h.b1; omega)).trans (h.low j hj), fun j hj1 hj2 => (base j (by omega)).trans (h.mid j hj1 hj2), h.l1, h.l2, h.s1, Nat.le_trans h.s2 hc.size, h.b1, h.b2⟩, hc.mono fun k _ hk => ?_, hc.below (by have := h.b1; omega) fun k hk => ?_⟩
  · by_cases hr : k < lo ∨ hi ≤ k
    · exact hr
    · exfalso
      rcases hk with e | ⟨i, hi2, e⟩
      · omega
      · rw [upX_ne _ (by omega), h.mid k (by omega) (by omega)] at e
        exact mark_far h1 hi2 e.symm
  · rcases hk with e | ⟨i, hi2, e⟩
    · rw [e]; exact h.b1
    · refine Nat.le_of_not_lt fun hlt => ?_
      have hb2 := h.b2
      rw [upX_ne _ (by omega), h.low k hlt] at e
      exact mark_pos a1 i e.symm

/-- The first disk's own block changes. -/
theorem Tw.own {B a1 g1 a2 g2 lo hi : Nat} {own : Nat → Nat} {V V' : World} {m1 m2 m1' : PD} (h : Tw B a1 g1 a2 g2 lo hi own V m1 m2) (h1 : a1 ≤ 100) (h2 : a2 ≤ 100) (ha : a1 ≠ a2) {d : Dk} (hD : DA V' B (upX own g2) a1 g1 d m1') (hc : Ch (fun k => k = g1) V V') :
    (∃ own', Tw B a1 g1 a2 g2 lo hi own' V' m1' m2) ∧ Ch (fun k => k < lo ∨ hi ≤ k) V V' ∧ Below B V V' := h.step h1 h2 ha (After.one hD hc)

/-- Two disks over a change of what is neither's. -/
theorem Tw.mids {B a1 g1 a2 g2 lo hi : Nat} {own : Nat → Nat} {V V' : World} {m1 m2 : PD} (h : Tw B a1 g1 a2 g2 lo hi own V m1 m2) (h1 : a1 ≤ 100) (h2 : a2 ≤ 100) {b : Nat} (hb1 : lo ≤ b) (hb2 : b < hi) (hc : Ch (fun k => k = b) V V') : Tw B a1 g1 a2 g2 lo hi own V' m1 m2 := by
  obtain ⟨e1, k1⟩ := h.d1
  obtain ⟨e2, k2⟩ := h.d2
  have hlo := h.l1
  have hl2 := h.l2
  have hm := h.mid b hb1 hb2
  refine ⟨⟨e1, k1.ch hc (by show ¬ g1 = b; omega) (fun i j hi hj e => ?_) (fun x hx e => ?_) (fun _ _ => rfl) (fun k hk => k1.fr k (Nat.le_trans hc.size hk))⟩, ⟨e2, k2.ch hc (by show ¬ g2 = b; omega) (fun i j hi hj e => ?_) (fun x hx e => ?_) (fun _ _ => rfl) (fun k hk => k2.fr k (Nat.le_trans hc.size hk))⟩, h.ne, h.z1, h.z2, h.low, h.mid, h.l1, h.l2, h.s1, Nat.le_trans h.s2 hc.size, h.b1, h.b2⟩
  · rw [e, upX_ne _ (by omega), hm] at hj
    exact mark_far h1 hi hj.symm
  · have := (k1.ok x hx).1
    rw [e, upX_ne _ (by omega), hm] at this
    cases this
  · rw [e, upX_ne _ (by omega), hm] at hj
    exact mark_far h2 hi hj.symm
  · have := (k2.ok x hx).1
    rw [e, upX_ne _ (by omega), hm] at this
    cases this

/-- A disk made apart, in block B, its memory below ex. -/
structure Fx (B ex a : Nat) (V : World) (m : PD) : Prop where
  da : ∃ own d, DA V B own a B d m ∧ (∀ k, k < B → own k = farM) ∧ (∀ k, ex ≤ k → own k = 0) ∧ ∀ x, d.kp = some x → x.block < ex
  lt : B < ex
  hv : ex ≤ V.heap.size

theorem Fx.ch {S : Nat → Prop} {B ex a : Nat} {V V' : World} {m : PD} (h : Fx B ex a V m) (ha : a ≤ 100) (hc : Ch S V V') (hS : ∀ k, B ≤ k → k < ex → ¬ S k) : Fx B ex a V' m := by
  obtain ⟨own, d, hD, h1, h2, h3⟩ := h.da
  exact ⟨⟨own, d, hD.far ha h1 h2 h.lt h3 hc hS h.hv, h1, h2, h3⟩, h.lt, Nat.le_trans h.hv hc.size⟩

theorem Fx.below {B ex a : Nat} {V V' : World} {m : PD} (h : Fx B ex a V m) (ha : a ≤ 100) (hb : Below V.heap.size V V') : Fx B ex a V' m := h.ch ha (Ch.of_below hb (fun _ => False)) (fun _ _ _ e => e)

theorem Fx.of {B a : Nat} {V : World} {m : PD} {own : Nat → Nat} {d : Dk} (h : DA V B own a B d m) (h1 : ∀ k, k < B → own k = farM) : Fx B V.heap.size a V m :=
  ⟨⟨own, d, h, h1, h.fr, fun x e => (h.ok x e).2.2⟩, h.dc.lt, Nat.le_refl _⟩

/-- Two disks that were made ahead of a stretch of memory. -/
theorem Tw.of {B g1 g2 : Nat} {own : Nat → Nat} {V V' : World} {d1 d2 : Dk} {m1 m2 : PD} (h1 : DA V B own 1 g1 d1 m1) (h2 : DA V B own 2 g2 d2 m2) (hb : Below V.heap.size V V') (hne : g1 ≠ g2) (hlow : ∀ j, j < B → own j = 0) (k1 : ∀ x, d1.kp = some x → x.block ≠ g2) (k2 : ∀ x, d2.kp = some x → x.block ≠ g1) :
    Tw B 1 g1 2 g2 V.heap.size V'.heap.size (fun k => if V.heap.size ≤ k ∧ k < V'.heap.size then farM else own k) V' m1 m2 := by
  have l1 := h1.dc.lt
  have l2 := h2.dc.lt
  have old : ∀ k, k < V.heap.size → (if V.heap.size ≤ k ∧ k < V'.heap.size then farM else own k) = own k := fun k hk => if_neg (by omega)
  have new : ∀ k, V'.heap.size ≤ k → (if V.heap.size ≤ k ∧ k < V'.heap.size then farM else own k) = 0 := fun k hk => by
    rw [if_neg (by omega)]
    exact h1.fr k (Nat.le_trans hb.size hk)
  have hsz := hb.size
  refine ⟨⟨d1, ?_⟩, ⟨d2, ?_⟩, hne, (old g1 l1).trans h1.og, (old g2 l2).trans h2.og, fun j hj => (old j (by have := h1.bg; omega)).trans (hlow j hj), fun j hj1 hj2 => if_pos ⟨hj1, hj2⟩, l1, l2, hsz, Nat.le_refl _, h1.bg, h2.bg⟩
  · have hr : DA V B (upX own g2) 1 g1 d1 m1 := h1.reown (fun k e => upX_ne _ (fun e2 => by
      rw [e2, h2.og] at e
      unfold mark at e
      omega)) ((upX_ne _ hne).trans h1.og) (fun x e => (upX_ne _ (k1 x e)).trans (h1.ok x e).1) (fun k hk => (upX_ne _ (by omega)).trans (h1.fr k hk))
    refine hr.grown hb (fun k hk => ?_) (fun k hk => (upX_ne _ (by omega)).trans (new k hk))
    by_cases e : k = g2
    · rw [e, upX_at, upX_at]
    · rw [upX_ne _ e, upX_ne _ e]; exact old k hk
  · have hr : DA V B (upX own g1) 2 g2 d2 m2 := h2.reown (fun k e => upX_ne _ (fun e2 => by
      rw [e2, h1.og] at e
      unfold mark at e
      omega)) ((upX_ne _ (fun e => hne e.symm)).trans h2.og) (fun x e => (upX_ne _ (k2 x e)).trans (h2.ok x e).1) (fun k hk => (upX_ne _ (by omega)).trans (h2.fr k hk))
    refine hr.grown hb (fun k hk => ?_) (fun k hk => (upX_ne _ (by omega)).trans (new k hk))
    by_cases e : k = g1
    · rw [e, upX_at, upX_at]
    · rw [upX_ne _ e, upX_ne _ e]; exact old k hk

theorem RdQQ.three {w : World} {b : Nat} {p q r : Option Addr} {n c m d n3 c3 : Nat} {ls ks ts : List Dv} (h0 : w.cell? ⟨b, 0, none⟩ = some (.slice p n c)) (h1 : w.cell? ⟨b, 1, none⟩ = some (.slice q m d)) (h2 : w.cell? ⟨b, 2, none⟩ = some (.slice r n3 c3)) (r0 : RdQ w p n c ls) (r1 : RdQ w q m d ks) (r2 : RdQ w r n3 c3 ts) : RdQQ w (some ⟨b, 0, none⟩) 3 [ls, ks, ts] :=
  ⟨rfl, fun _ => ⟨b, 0, rfl, fun j hj => by
    rw [Nat.zero_add]
    match j, hj with
    | 0, _ => exact ⟨p, n, c, h0, r0⟩
    | 1, _ => exact ⟨q, m, d, h1, r1⟩
    | 2, _ => exact ⟨r, n3, c3, h2, r2⟩⟩⟩

theorem short_three {ls ks ts : List Dv} (h : totN [ls, ks, ts] [ls, ks, ts].length ≤ 16384 ∧ cntN [ls, ks, ts] [ls, ks, ts].length ≤ 150) : Small ls ∧ Small ks ∧ Small ts ∧ ls.length + ks.length + ts.length ≤ 150 := by
  have h2 : 0 + ls.length + ks.length + ts.length ≤ 150 := h.2
  exact ⟨(short_of h (j := 0) (by simp)).2.1, (short_of h (j := 1) (by simp)).2.1, (short_of h (j := 2) (by simp)).2.1, by omega⟩

theorem RdQ.low {w w' : World} {p : Option Addr} {n c : Nat} {ls : List Dv} (h : RdQ w p n c ls) (hb : Below w.heap.size w w') : RdQ w' p n c ls := h.below hb

theorem RdQ.nil0 {w : World} {p : Option Addr} {n c : Nat} {ls : List Dv} (h : RdQ w p n c ls) (e : p = none) : n = 0 := by
  by_cases h0 : 0 < n
  · obtain ⟨b, o, e2, _⟩ := h.cells h0
    rw [e] at e2
    cases e2
  · omega

end Go.Proofs.Ytcgpdaalehgjdaa.M
