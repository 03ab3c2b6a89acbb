/-
  Own text: the state of a search in memory, and what a search may change.
-/
import Derived.Test.YtmfmjoibofadlaaOMap
namespace Go.Proofs.Ytmfmjoibofadlaa.M
open Go.ChangeShapes Go.WideShapes Go.ChangeAt Go.RowKit Go.ChangeMaps Go.MapKept Go.Maps
set_option linter.unusedSimpArgs false

/-- What stands still in a search, and where. -/
structure Sr where
  h : Nat
  p : Option Addr
  n : Nat
  c : Nat
  q : Option Addr
  e : Nat
  L : List Lo
  mu : Nat
  ah : List Int
  rp : Option Addr
  rn : Nat
  rc : Nat
  R : List Int
  wp : Option Addr
  wn : Nat
  wc : Nat
  S : List Int
  mb : Nat
  B : Nat

/-- It lies in this world. -/
def Sr.lies (s : Sr) (w : World) : Prop := Se w s.h s.p s.n s.c s.q s.e s.L s.mu s.ah s.rp s.rn s.rc s.R s.wp s.wn s.wc s.S

/-- A block that a search leaves as it is. -/
def Sr.calm (s : Sr) (x : Option Addr) : Prop := ∀ a, x = some a → a.block ≠ s.h ∧ a.block ≠ s.mb ∧ a.block < s.B

structure Sr.ok (s : Sr) : Prop where
  rn : s.rn ≤ 24
  wn : s.wn ≤ 1
  inR : Inn s.n s.R
  inS : Inn s.n s.S
  str : ∀ i, (s.L.getD i .z0).s.size ≤ 24
  hm : s.h ≠ s.mb
  hB : s.h < s.B
  mB : s.mb < s.B
  kp : s.calm s.p
  kq : s.calm s.q
  kr : s.calm s.rp
  kw : s.calm s.wp

/-- Whether a point is among some. -/
def hasP (K : List (Nat × ByteArray)) (d : Nat) (v : ByteArray) : Bool := K.any fun k => k.1 == d && k.2.data.toList == v.data.toList

/-- What the map of blind points tells. -/
def PB (K : List (Nat × ByteArray)) (f : Value → Option Value) : Prop := ∀ d v, f (ptV d v) = if hasP K d v = true then some (.agg #[]) else none

theorem ptV_inj {d d' : Nat} {v v' : ByteArray} (h : ptV d v = ptV d' v') : d = d' ∧ v = v' := by
  unfold ptV at h
  simp at h
  exact ⟨by omega, h.2⟩

theorem PB.put {K : List (Nat × ByteArray)} {f : Value → Option Value} (h : PB K f) (d : Nat) (v : ByteArray) : ∃ f', PB ((d, v) :: K) f' ∧ f' (ptV d v) = some (.agg #[]) ∧ ∀ x, x ≠ ptV d v → f' x = f x := by
  classical
  refine ⟨fun x => if x = ptV d v then some (.agg #[]) else f x, fun d' v' => ?_, if_pos rfl, fun x hx => if_neg hx⟩
  dsimp only
  by_cases e : ptV d' v' = ptV d v
  · obtain ⟨rfl, rfl⟩ := ptV_inj e
    rw [if_pos rfl, if_pos (by simp [hasP])]
  · rw [if_neg e, h d' v']
    have e3 : hasP ((d, v) :: K) d' v' = hasP K d' v' := by
      unfold hasP
      rw [List.any_cons]
      have e4 : (d == d' && v.data.toList == v'.data.toList) = false := by
        rw [Bool.eq_false_iff]
        intro e5
        rw [Bool.and_eq_true, beq_iff_eq, beq_iff_eq] at e5
        have e6 : v = v' := by
          obtain ⟨⟨a⟩⟩ := v
          obtain ⟨⟨b⟩⟩ := v'
          have := e5.2
          dsimp only at this
          rw [this]
        exact e (by rw [e5.1, e6])
      rw [e4, Bool.false_or]
    rw [e3]

/-- The state of a search: which points are blind, and the order as yet. -/
structure St (s : Sr) (w : World) (K : List (Nat × ByteArray)) (pr : Option Addr) (nr cr : Nat) (row : List Int) : Prop where
  se : s.lies w
  c5 : w.cell? ⟨s.h, 5, none⟩ = some (.map (some s.mb))
  c6 : w.cell? ⟨s.h, 6, none⟩ = some (.slice pr nr cr)
  fz : w.frozen? ⟨s.h, 6, none⟩ = false
  map : ∃ f N, MapIs Try.prog 53 w s.mb N f ∧ PB K f
  own : OwS .i64 3 w s.B pr nr cr row
  sz : s.B ≤ w.heap.size

theorem RdO.ch {S : Nat → Prop} {w w' : World} {p : Option Addr} {n c : Nat} {xs : List Lo} (h : RdO w p n c xs) (hc : Ch S w w') (hs : ∀ a, p = some a → ¬ S a.block) : RdO w' p n c xs := by
  refine ⟨h.len, h.cap, h.nil, fun hn => ?_⟩
  obtain ⟨b, o, hp, hcs⟩ := h.cells hn
  refine ⟨b, o, hp, fun i hi => ?_⟩
  obtain ⟨h0, h1, h2, h3, h4⟩ := hcs i hi
  have hS : ¬ S b := hs ⟨b, o, none⟩ hp
  have g : ∀ (j : Nat) (u : Value), w.cell? ⟨b, j, none⟩ = some u → w'.cell? ⟨b, j, none⟩ = some u := fun j u e => by
    rw [hc.cell (p := ⟨b, j, none⟩) (World.block_lt_of_cell? _ _ e) hS]; exact e
  exact ⟨g _ _ h0, g _ _ h1, g _ _ h2, g _ _ h3, g _ _ h4⟩

/-- What stands still, behind a change of other blocks. -/
theorem Sr.lies.move {s : Sr} {w w' : World} {X : Nat → Prop} (h : s.lies w) (hk : s.ok) (hc : Ch X w w') (hX : ∀ k, X k → k = s.h ∨ k = s.mb ∨ s.B ≤ k) (h5 : ∀ i, i < 5 → w'.cell? ⟨s.h, i, none⟩ = w.cell? ⟨s.h, i, none⟩) : s.lies w' := by
  have cm : ∀ x, s.calm x → ∀ a, x = some a → ¬ X a.block := fun x hx a ha hXa => by
    obtain ⟨h1, h2, h3⟩ := hx a ha
    rcases hX _ hXa with e | e | e
    · exact h1 e
    · exact h2 e
    · omega
  obtain ⟨⟨c0, c1, c2, ops, sets, mul, wd⟩, c3, c4, reads, writes⟩ := h
  exact ⟨⟨by rw [h5 0 (by decide)]; exact c0, by rw [h5 1 (by decide)]; exact c1, by rw [h5 2 (by decide)]; exact c2, ops.ch hc (cm _ hk.kp), sets.ch hc (cm _ hk.kq), mul, wd⟩, by rw [h5 3 (by decide)]; exact c3, by rw [h5 4 (by decide)]; exact c4, reads.ch hc (cm _ hk.kr), writes.ch hc (cm _ hk.kw)⟩

theorem St.below {s : Sr} {w w' : World} {K : List (Nat × ByteArray)} {pr : Option Addr} {nr cr : Nat} {row : List Int} (h : St s w K pr nr cr row) (hb : Below w.heap.size w w') : St s w' K pr nr cr row := by
  have hlt := World.block_lt_of_cell? _ _ h.c5
  obtain ⟨f, N, hm, hp⟩ := h.map
  exact ⟨Se.below h.se hb, by rw [hb.cell (p := ⟨s.h, 5, none⟩) hlt]; exact h.c5, by rw [hb.cell (p := ⟨s.h, 6, none⟩) hlt]; exact h.c6, by rw [hb.frozen (p := ⟨s.h, 6, none⟩) hlt]; exact h.fz, ⟨f, N, hm.kept (hb.block _ hm.lt), hp⟩, h.own.same fun a ha => hb.block _ (h.own.lt ha).2, Nat.le_trans h.sz hb.size⟩

/-- The blocks that a search may change. -/
def Sr.may (s : Sr) (pr : Option Addr) (k : Nat) : Prop := k = s.h ∨ k = s.mb ∨ ∃ a, pr = some a ∧ a.block = k

/-- What a search has changed: its own blocks alone. -/
def Fm (s : Sr) (w : World) (pr : Option Addr) (w' : World) (pr' : Option Addr) : Prop := Ch (s.may pr) w w' ∧ ∀ a, pr' = some a → (∃ a0, pr = some a0 ∧ a0.block = a.block) ∨ w.heap.size ≤ a.block

theorem Fm.refl (s : Sr) (w : World) (pr : Option Addr) : Fm s w pr w pr := ⟨Ch.refl _ _, fun a ha => Or.inl ⟨a, ha, rfl⟩⟩

theorem Fm.trans {s : Sr} {w w1 w2 : World} {p0 p1 p2 : Option Addr} (h : Fm s w p0 w1 p1) (k : Fm s w1 p1 w2 p2) : Fm s w p0 w2 p2 := by
  refine ⟨⟨k.1.os.trans h.1.os, k.1.tape.trans h.1.tape, k.1.output.trans h.1.output, Nat.le_trans h.1.size k.1.size, fun j hj hn => ?_⟩, fun a ha => ?_⟩
  · refine (k.1.block j (Nat.lt_of_lt_of_le hj h.1.size) fun hm => hn ?_).trans (h.1.block j hj hn)
    rcases hm with e | e | ⟨a, ha, e⟩
    · exact Or.inl e
    · exact Or.inr (Or.inl e)
    · rcases h.2 a ha with ⟨a0, h1, h2⟩ | h1
      · exact Or.inr (Or.inr ⟨a0, h1, h2.trans e⟩)
      · omega
  · rcases k.2 a ha with ⟨a1, h1, h2⟩ | h1
    · rcases h.2 a1 h1 with ⟨a0, h3, h4⟩ | h3
      · exact Or.inl ⟨a0, h3, h4.trans h2⟩
      · exact Or.inr (h2 ▸ h3)
    · exact Or.inr (Nat.le_trans h.1.size h1)

theorem Fm.below {s : Sr} {w w1 w2 : World} {p0 p1 : Option Addr} (h : Fm s w p0 w1 p1) (hb : Below w1.heap.size w1 w2) : Fm s w p0 w2 p1 :=
  h.trans ⟨Ch.of_below hb _, fun a ha => Or.inl ⟨a, ha, rfl⟩⟩

/-- One more blind point. -/
theorem St.blind {s : Sr} {w : World} {K : List (Nat × ByteArray)} {pr : Option Addr} {nr cr : Nat} {row : List Int} (h : St s w K pr nr cr row) (hk : s.ok) {d : Nat} {v : ByteArray} (hd : d < 18446744073709551616) (hv : v.size ≤ 24) :
    ∃ o, (Instr.mapUpdate 57 (.map (some s.mb)) (ptV d v) (.agg #[])).run Try.prog w = .ok () (setBlock w s.mb o) ∧ St s (setBlock w s.mb o) ((d, v) :: K) pr nr cr row ∧ Fm s w pr (setBlock w s.mb o) pr := by
  obtain ⟨kl, hkl⟩ := key_ok hd (show v.size ≤ maxLen by unfold maxLen; omega)
  obtain ⟨f, N, hm, hp⟩ := h.map
  obtain ⟨f', hp', hf1, hf2⟩ := hp.put d v
  obtain ⟨o, hrun, hfin⟩ := hm.put (Keyed.of_law pointLaw) mapP hkl (.agg #[])
  have hsz : (setBlock w s.mb o).heap.size = w.heap.size := by unfold setBlock; simp
  have hblk : ∀ k, k ≠ s.mb → (setBlock w s.mb o).heap[k]? = w.heap[k]? := fun k hk => heap_setBlock_ne w s.mb k o hk
  have hc : Ch (fun k => k = s.mb) w (setBlock w s.mb o) := ⟨rfl, rfl, rfl, Nat.le_of_eq hsz.symm, fun k _ hn => hblk k hn⟩
  have hcell : ∀ i, (setBlock w s.mb o).cell? ⟨s.h, i, none⟩ = w.cell? ⟨s.h, i, none⟩ := fun i => World.cell?_of_block (hblk s.h hk.hm)
  refine ⟨o, hrun, ⟨h.se.move hk hc (fun k e => Or.inr (Or.inl e)) (fun i _ => hcell i), by rw [hcell 5]; exact h.c5, by rw [hcell 6]; exact h.c6, by rw [World.frozen?_of_block (a := ⟨s.h, 6, none⟩) (hblk s.h hk.hm)]; exact h.fz, ⟨f', N + 1, hfin _ f' (heap_setBlock w s.mb o hm.lt) hf1 hf2, hp'⟩, h.own.ch hc fun a ha e => ?_, by rw [hsz]; exact h.sz⟩, hc.mono fun k _ e => Or.inr (Or.inl e), fun a ha => Or.inl ⟨a, ha, rfl⟩⟩
  have h1 := (h.own.lt ha).1
  have h2 := hk.mB
  omega

/-- Another row is stored. -/
theorem St.store {s : Sr} {w w1 : World} {K : List (Nat × ByteArray)} {pr p1 : Option Addr} {nr cr n1 c1 : Nat} {row row1 : List Int} (h : St s w K pr nr cr row) (hk : s.ok) (hg : Grow w w1 pr cr p1 c1) (ho : OwS .i64 3 w1 s.B p1 n1 c1 row1) :
    St s (w1.setCell ⟨s.h, 6, none⟩ (.slice p1 n1 c1)) K p1 n1 c1 row1 ∧ Fm s w pr (w1.setCell ⟨s.h, 6, none⟩ (.slice p1 n1 c1)) p1 := by
  have hc1 := hg.ch (fun k => ∃ a, pr = some a ∧ a.block = k) (fun a ha => ⟨a, ha, rfl⟩)
  have hc2 := Ch.setCell w1 ⟨s.h, 6, none⟩ (.slice p1 n1 c1)
  have hc : Ch (fun k => k = s.h ∨ ∃ a, pr = some a ∧ a.block = k) w (w1.setCell ⟨s.h, 6, none⟩ (.slice p1 n1 c1)) := (hc1.mono fun k _ e => Or.inr e).trans (hc2.mono fun k _ e => Or.inl e)
  have hlt := World.block_lt_of_cell? _ _ h.c5
  have hnr : ∀ a, pr = some a → ¬ a.block = s.h := fun a ha e => by have := (h.own.lt ha).1; have := hk.hB; omega
  have hcell1 : ∀ i, w1.cell? ⟨s.h, i, none⟩ = w.cell? ⟨s.h, i, none⟩ := fun i => hc1.cell (p := ⟨s.h, i, none⟩) hlt (by rintro ⟨a, ha, e⟩; exact hnr a ha e)
  have hcell : ∀ i, i ≠ 6 → (w1.setCell ⟨s.h, 6, none⟩ (.slice p1 n1 c1)).cell? ⟨s.h, i, none⟩ = w.cell? ⟨s.h, i, none⟩ := fun i hi => by
    rw [World.cell?_setCell_other (h := fun e => hi (congrArg Addr.off e).symm), hcell1]
  have h6 : w1.cell? ⟨s.h, 6, none⟩ = some (.slice pr nr cr) := by rw [hcell1 6]; exact h.c6
  obtain ⟨f, N, hm, hp⟩ := h.map
  have hmb : ¬ (s.mb = s.h ∨ ∃ a, pr = some a ∧ a.block = s.mb) := by
    rintro (e | ⟨a, ha, e⟩)
    · exact hk.hm e.symm
    · have := (h.own.lt ha).1; have := hk.mB; omega
  refine ⟨⟨h.se.move hk hc (fun k e => ?_) (fun i hi => hcell i (by omega)), by rw [hcell 5 (by decide)]; exact h.c5, World.cell?_setCell_same _ _ _ h6, ?_, ⟨f, N, hm.kept (hc.block _ hm.lt hmb), hp⟩, ho.ch hc2 fun a ha e => ?_, Nat.le_trans h.sz hc.size⟩, hc.mono fun k _ e => ?_, fun a ha => ?_⟩
  · rcases e with e | ⟨a, ha, e⟩
    · exact Or.inl e
    · exact Or.inr (Or.inr (by have := (h.own.lt ha).1; omega))
  · rw [World.frozen?_setCell]
    rw [hc1.frozen (p := ⟨s.h, 6, none⟩) hlt (by rintro ⟨a, ha, e⟩; exact hnr a ha e)]
    exact h.fz
  · have e1 : a.block = s.h := e
    have := (ho.lt ha).1; have := hk.hB; omega
  · rcases e with e | e
    · exact Or.inl e
    · exact Or.inr (Or.inr e)
  · rcases hg with ⟨e, _, _⟩ | ⟨_, h1⟩
    · exact Or.inl ⟨a, e ▸ ha, rfl⟩
    · exact Or.inr (h1 a ha)

end Go.Proofs.Ytmfmjoibofadlaa.M
