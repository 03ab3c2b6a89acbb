/-
  Own text: two tapes that are played alike.
-/
import Derived.Test.YtpjhadaiodnnaaaTAgn
namespace Go.Proofs.Ytpjhadaiodnnaaa.M
open Go.ChangeShapes Go.WideShapes Go.ChangeAt Go.RowKit
set_option linter.unusedSimpArgs false

/-- Append onto a disk. -/
theorem DS.app {w : World} {L a g : Nat} {own : Nat → Nat} {d : Dk} {m : PD} {s : Nat} (h : DS w L a g own d m) (hm : Fit m s) (hs : s ≤ 274877906944) (i : Nat) (hi : i < 8) (q : Option Addr) (l c : Nat) (ys : List Int) (hy : Rd .u8 w q l c ys) (hlow : ∀ x, q = some x → 0 < l → x.block < L) (hl : l ≤ 274877906944) :
    Calls Try.prog 11 #[.pointer (some ⟨g, 0, none⟩), .int .i64 i, .slice q l c] w fun e w' => e = .returned (.int .i64 (ptM m i ys).2) ∧ (∃ own2 d2, DS w' L a g own2 d2 (ptM m i ys).1) ∧ Below L w w' := by
  refine (Append_any w L own a g d m s h.da hm hs h.lw i hi q l c ys hy (fun x e h0 => by have := hlow x e h0; have := h.lg; omega) hl).mono ?_
  rintro e w' ⟨rfl, own2, d2, h1, h2, h3⟩
  refine ⟨rfl, ⟨own2, d2, h1, Nat.le_trans h.lw h3.size, h.lg, fun k hk => (h2 k (Nat.lt_of_lt_of_le hk h.lw)).trans (h.low k hk)⟩, h3.lowL h.lw (fun k hk e => ?_)⟩
  rcases e with e | e
  · have := h.lg
    omega
  · rw [h.low k hk] at e
    unfold mark at e
    omega

theorem Cal.app {m : PD} (h : Cal m) (i : Nat) (bs : List Int) : Cal (ptM m i bs).1 ∧ (ptM m i bs).1.room = m.room ∧ (ptM m i bs).1.keep = m.keep ∧ (∀ j, j ≠ i → (ptM m i bs).1.f j = m.f j) ∧ (((ptM m i bs).1.f i).told = (m.f i).told ∨ ((ptM m i bs).1.f i).told = (m.f i).told ++ bs) := by
  rcases h.put i bs with e | e
  · rw [e]
    exact ⟨h, rfl, rfl, fun _ _ => rfl, Or.inl rfl⟩
  · rw [e]
    exact ⟨h.f _, rfl, rfl, fun j hj => up_other hj, Or.inr (by show (upP m.f i _ i).told = _; rw [upP_same])⟩

/-- The disk that the law begins with. -/
def agM (xs0 bs : List Int) : PD := (ptM (ptM mq0 0 xs0).1 1 bs).1

theorem mq0_ok : mq0.ok 0 := ⟨by decide, by decide, fun _ _ => Nat.le_refl _, fun _ _ => Nat.le_refl _, Nat.zero_le _, Nat.zero_le _⟩

theorem agM_ok {xs0 bs : List Int} (ha : xs0.length ≤ 16384) (hb : bs.length ≤ 16384) (h1 : By xs0) (h2 : By bs) : Two (agM xs0 bs) 16384 ∧ Cal (agM xs0 bs) ∧ (agM xs0 bs).room = 2097152 ∧ (agM xs0 bs).keep = [] ∧ (agM xs0 bs).ok 40000 ∧ Fit (ptM mq0 0 xs0).1 20000 := by
  have c0 : Cal mq0 := ⟨rfl, rfl⟩
  obtain ⟨a1, a2, a3, a4, a5⟩ := c0.app 0 xs0
  obtain ⟨b1, b2, b3, b4, b5⟩ := a1.app 1 bs
  have k1 := (ptM_ok mq0_ok (i := 0) (by decide) xs0).mono (show _ ≤ 20000 by omega)
  have k2 := (ptM_ok k1 (i := 1) (by decide) bs).mono (show _ ≤ 40000 by omega)
  have z : ∀ j, (mq0.f j).told = [] := fun _ => rfl
  have f0 : ((agM xs0 bs).f 0).told = [] ∨ ((agM xs0 bs).f 0).told = xs0 := by
    show ((ptM (ptM mq0 0 xs0).1 1 bs).1.f 0).told = [] ∨ ((ptM (ptM mq0 0 xs0).1 1 bs).1.f 0).told = xs0
    rw [b4 0 (by decide)]
    rw [z 0] at a5
    exact a5
  have f1 : ((agM xs0 bs).f 1).told = [] ∨ ((agM xs0 bs).f 1).told = bs := by
    show ((ptM (ptM mq0 0 xs0).1 1 bs).1.f 1).told = [] ∨ ((ptM (ptM mq0 0 xs0).1 1 bs).1.f 1).told = bs
    rw [a4 1 (by decide), z 1] at b5
    exact b5
  refine ⟨⟨fun i hi => ?_, fun i h2 h8 => ?_, fun i hi => ?_⟩, b1, b2.trans a2, b3.trans a3, k2, k1, a1.up⟩
  · match i, hi with
    | 0, _ => rcases f0 with e | e <;> rw [e] <;> first | exact Nat.zero_le _ | exact ha
    | 1, _ => rcases f1 with e | e <;> rw [e] <;> first | exact Nat.zero_le _ | exact hb
  · show ((ptM (ptM mq0 0 xs0).1 1 bs).1.f i).told.length = 0
    rw [b4 i (by omega), a4 i (by omega), z i]
    rfl
  · match i, hi with
    | 0, _ => rcases f0 with e | e <;> rw [e] <;> first | exact By.nil | exact h1
    | 1, _ => rcases f1 with e | e <;> rw [e] <;> first | exact By.nil | exact h2

/-- What a call of the list holds, in its box. -/
def Bx (x : World) (bx : Nat) (op : Int) (q : Option Addr) (n c : Nat) : Prop := x.cell? ⟨bx, 0, none⟩ = some (.int .i64 op) ∧ x.cell? ⟨bx, 2, none⟩ = some (.slice q n c)

theorem Bx.below {x y : World} {bx : Nat} {op : Int} {q : Option Addr} {n c : Nat} (h : Bx x bx op q n c) (hb : Below x.heap.size x y) : Bx y bx op q n c := ⟨cell_below hb h.1, cell_below hb h.2⟩

theorem Bx.ch {S : Nat → Prop} {x y : World} {bx : Nat} {op : Int} {q : Option Addr} {n c : Nat} (h : Bx x bx op q n c) (hb : Ch S x y) (hs : ¬ S bx) : Bx y bx op q n c := ⟨(hb.cell (World.block_lt_of_cell? _ _ h.1) hs).trans h.1, (hb.cell (World.block_lt_of_cell? _ _ h.2) hs).trans h.2⟩

/-- Where the law is: two tapes alike. -/
structure AgI (w3 wr : World) (L L2 g gt gc gu : Nat) (o1 o2 : Nat → Nat) (kk : Nat) (m : PD) (t : TP) : Prop where
  pr : Pr wr L L2 g gt gc gu o1 o2 m t m t
  cal : Cal m
  ok : m.ok (50000000 + kk * 40000000)
  file : t.file ≤ 1
  few : t.r.recs.length ≤ 4096 + kk
  base : t.r.base.length ≤ 8176
  recs : ∀ d ∈ t.r.recs, d.length ≤ 8192
  bel : Below L w3 wr
  low : L ≤ L2

theorem AgI.below {w3 wr w' : World} {L L2 g gt gc gu : Nat} {o1 o2 : Nat → Nat} {kk : Nat} {m : PD} {t : TP} (h : AgI w3 wr L L2 g gt gc gu o1 o2 kk m t) (hb : Below wr.heap.size wr w') : AgI w3 w' L L2 g gt gc gu o1 o2 kk m t :=
  ⟨h.pr.below hb, h.cal, h.ok, h.file, h.few, h.base, h.recs, h.bel.trans (hb.mono h.pr.t1.o.lw), h.low⟩

/-- One call ahead of the first Put, behind it, and behind both. -/
def Sa (w3 : World) (L L2 g gt gc gu : Nat) (o1 o2 : Nat → Nat) (kk : Nat) (m : PD) (t : TP) (bx : Nat) (op : Int) (q : Option Addr) (n c : Nat) (x : World) : Prop := Bx x bx op q n c ∧ AgI w3 x L L2 g gt gc gu o1 o2 kk m t
def Sb (w3 : World) (L L2 g gt gc gu : Nat) (o2 : Nat → Nat) (m1 : PD) (t1 : TP) (m : PD) (t : TP) (bx : Nat) (op : Int) (q : Option Addr) (n c : Nat) (x : World) : Prop := Bx x bx op q n c ∧ (∃ o1, Pr x L L2 g gt gc gu o1 o2 m1 t1 m t) ∧ Below L w3 x
def Sc (w3 : World) (L L2 g gt gc gu : Nat) (kk : Nat) (m : PD) (t : TP) (bx : Nat) (op : Int) (q : Option Addr) (n c : Nat) (x : World) : Prop := Bx x bx op q n c ∧ ∃ o1 o2, AgI w3 x L L2 g gt gc gu o1 o2 kk m t

theorem Sa.stays {w3 : World} {L L2 g gt gc gu : Nat} {o1 o2 : Nat → Nat} {kk : Nat} {m : PD} {t : TP} {bx : Nat} {op : Int} {q : Option Addr} {n c : Nat} : Stays (Sa w3 L L2 g gt gc gu o1 o2 kk m t bx op q n c) := fun _ _ h hb => ⟨h.1.below hb, h.2.below hb⟩
theorem Sb.stays {w3 : World} {L L2 g gt gc gu : Nat} {o2 : Nat → Nat} {m1 : PD} {t1 : TP} {m : PD} {t : TP} {bx : Nat} {op : Int} {q : Option Addr} {n c : Nat} : Stays (Sb w3 L L2 g gt gc gu o2 m1 t1 m t bx op q n c) := fun _ _ h hb => by
  obtain ⟨h1, ⟨o1, h2⟩, h3⟩ := h
  exact ⟨h1.below hb, ⟨o1, h2.below hb⟩, h3.trans (hb.mono h2.t1.o.lw)⟩
theorem Sc.stays {w3 : World} {L L2 g gt gc gu : Nat} {kk : Nat} {m : PD} {t : TP} {bx : Nat} {op : Int} {q : Option Addr} {n c : Nat} : Stays (Sc w3 L L2 g gt gc gu kk m t bx op q n c) := fun _ _ h hb => by
  obtain ⟨h1, o1, o2, h2⟩ := h
  exact ⟨h1.below hb, o1, o2, h2.below hb⟩

theorem AgI.put1 {w3 wb V : World} {L L2 g gt gc gu : Nat} {o1 o2 : Nat → Nat} {kk : Nat} {m : PD} {t : TP} (h0 : AgI w3 wb L L2 g gt gc gu o1 o2 kk m t) (hk : kk ≤ 60) {op : Int} {q : Option Addr} {n c : Nat} (h : Sa w3 L L2 g gt gc gu o1 o2 kk m t wb.heap.size op q n c V) (xs : List Int) (hr : Rd .u8 V q n c xs) (hy : By xs) (hlow : ∀ x, q = some x → 0 < n → x.block < L) :
    Calls Try.prog 23 #[.pointer (some ⟨gt, 0, none⟩), .slice q n c] V fun e V' => e = .returned (.int .i64 (ptT m t xs).1) ∧ Sb w3 L L2 g gt gc gu o2 (ptT m t xs).2.1 (ptT m t xs).2.2 m t wb.heap.size op q n c V' := by
  obtain ⟨h1, h2⟩ := h
  refine (h2.pr.put1 _ h2.cal h2.ok (by omega) h2.file (by have := h2.few; omega) q n c xs hr hy hlow).mono ?_
  rintro e V' ⟨rfl, o1', h3, h4⟩
  exact ⟨rfl, h1.ch h4 (fun e => e (h0.pr.t1.new (Nat.le_refl _))), ⟨o1', h3⟩, h2.bel.trans (h4.lowB h2.pr.t1)⟩

theorem AgI.put2 {w3 wb V : World} {L L2 g gt gc gu : Nat} {o1 o2 : Nat → Nat} {kk : Nat} {m : PD} {t : TP} (h0 : AgI w3 wb L L2 g gt gc gu o1 o2 kk m t) (hk : kk ≤ 60) {op : Int} {q : Option Addr} {n c : Nat} (xs : List Int) (h : Sb w3 L L2 g gt gc gu o2 (ptT m t xs).2.1 (ptT m t xs).2.2 m t wb.heap.size op q n c V) (hr : Rd .u8 V q n c xs) (hy : By xs) (hlow : ∀ x, q = some x → 0 < n → x.block < L) :
    Calls Try.prog 23 #[.pointer (some ⟨gu, 0, none⟩), .slice q n c] V fun e V' => e = .returned (.int .i64 (ptT m t xs).1) ∧ Sc w3 L L2 g gt gc gu (kk + 1) (ptT m t xs).2.1 (ptT m t xs).2.2 wb.heap.size op q n c V' := by
  obtain ⟨h1, ⟨o1', h2⟩, hb⟩ := h
  refine (h2.put2 _ h0.cal h0.ok (by omega) h0.file (by have := h0.few; omega) q n c xs hr hy (fun x e hn => Nat.lt_of_lt_of_le (hlow x e hn) h0.low)).mono ?_
  rintro e V' ⟨rfl, o2', h3, h4⟩
  obtain ⟨f1, f2, f3, f4⟩ := ptT_file (m := m) (t := t) (xs := xs)
  refine ⟨rfl, h1.ch h4 (fun e => e (h0.pr.t2.new (Nat.le_refl _))), o1', o2', h3, h0.cal.ptk.2, (ptT_ok h0.ok h0.file).mono (by omega), by rw [f1]; exact h0.file, by have := h0.few; omega, by rw [f2]; exact h0.base, f4 h0.recs, hb.trans ((h4.lowB h2.t2).mono h0.low), h0.low⟩

/-- The law's begin: two tapes alike. -/
theorem AgI.mk0 {w3 w5 w6 w7 : World} {L g gt gc gu : Nat} {o1 oc o2 : Nat → Nat} {d : Dk} {m : PD} {t : TP} (h1 : TSx w5 L 0 g gt o1 m t) (hb5 : Below L w3 w5) (hD : DS w6 w5.heap.size 1 gc oc d m) (hb6 : Below w5.heap.size w5 w6) (h2 : TSx w7 w5.heap.size 1 gc gu o2 m ⟨t.file, t.r.recs.length, t.r⟩) (ho : ∀ k, k < w6.heap.size → o2 k = oc k) (hb7 : Below w6.heap.size w6 w7)
    (hk : t.kept = t.r.recs.length) (hc : Cal m) (hkeep : m.keep = []) (hok : m.ok 40040000) (hf : t.file ≤ 1) (hr : t.r.fit) (hfew : t.r.recs.length ≤ 4096) : AgI w3 w7 L w5.heap.size g gt gc gu o1 o2 0 m t := by
  have hb57 : Below w5.heap.size w5 w7 := hb6.trans (hb7.mono hb6.size)
  have e : (⟨t.file, t.r.recs.length, t.r⟩ : TP) = t := by rw [← hk]
  rw [e] at h2
  refine ⟨⟨h1.below hb57, h2, fun k => ?_, hkeep, hkeep⟩, hc, hok.mono (by omega), hf, by omega, hr.base.1, fun d hd => (getD_all (P := fun d => By d ∧ d.length ≤ 8192) hr.recs d hd).2, hb5.trans (hb57.mono h1.o.lw), h1.o.lw⟩
  rcases Nat.lt_or_ge k w5.heap.size with hk | hk
  · refine Or.inr ⟨(ho k (Nat.lt_of_lt_of_le hk hb6.size)).trans (hD.low k hk), ?_⟩
    have := hD.lg
    omega
  · exact Or.inl (h1.new hk)

end Go.Proofs.Ytpjhadaiodnnaaa.M
