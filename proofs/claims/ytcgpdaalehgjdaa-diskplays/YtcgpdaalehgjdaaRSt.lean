/-
  Own text: both disks, a call's two boxes and its clones, through a call of each.
-/
import Derived.Test.YtcgpdaalehgjdaaRBox
namespace Go.Proofs.Ytcgpdaalehgjdaa.M
open Go.ChangeShapes Go.WideShapes Go.ChangeAt Go.RowKit

theorem far_ne {own : Nat → Nat} {g j : Nat} (h0 : own g = 0) (h : own j = farM) : j ≠ g := fun e => by
  rw [e, h0] at h
  unfold farM at h
  omega

theorem far_mine {own : Nat → Nat} {g j : Nat} (h0 : own g = 0) (h : own j = farM) : ¬ Mine own 1 g j := by
  rintro (e | ⟨i, hi, e⟩)
  · exact far_ne h0 h e
  · rw [h] at e
    unfold mark farM at e
    omega

theorem Dv.at.ch {S : Nat → Prop} {w w' : World} {b o : Nat} {x : Dv} (h : x.at w b o) (hc : Ch S w w') (hS : ¬ S b) : x.at w' b o := by
  have hlt : b < w.heap.size := World.block_lt_of_cell? _ _ h.c0
  exact ⟨by rw [hc.cell (p := ⟨b, o, none⟩) hlt hS]; exact h.c0, by rw [hc.cell (p := ⟨b, o + 1, none⟩) hlt hS]; exact h.c1, by rw [hc.cell (p := ⟨b, o + 2, none⟩) hlt hS]; exact h.c2, by rw [hc.cell (p := ⟨b, o + 3, none⟩) hlt hS]; exact h.c3, by rw [hc.cell (p := ⟨b, o + 4, none⟩) hlt hS]; exact h.c4⟩

/-- Both disks, a call x in one box, its copy y in another, over clones of its own. -/
structure St (w : World) (g gr b10 b11 B0 : Nat) (x y : Dv) (own : Nat → Nat) (d : Dk) (k : Sl) (md mr : PD) (V : World) : Prop where
  x10 : x.at V b10 0
  y11 : y.at V b11 0
  da : DA V w.heap.size own 1 g d md
  rd : RD V gr mr k
  ogr : own gr = farM
  ne : gr ≠ g
  low : ∀ j, j < w.heap.size → own j = 0
  kp : ∀ a, k.p = some a → 0 < k.n → own a.block = 0 ∧ a.block ≠ g
  o10 : own b10 = farM
  o11 : own b11 = farM
  ob : ∀ a, y.bq = some a → own a.block = farM
  ok : ∀ a, y.kq = some a → own a.block = farM
  mb : OwS .u8 5 V B0 y.bq y.bl y.bc y.b
  mi : OwS .i64 3 V B0 y.kq y.kl y.kc y.keep
  two : ∀ a b : Addr, y.bq = some a → y.kq = some b → a.block ≠ b.block
  l1 : b11 < B0
  l2 : gr < B0
  bel : Below w.heap.size w V

theorem St.stays (w : World) (g gr b10 b11 B0 : Nat) (x y : Dv) (own : Nat → Nat) (d : Dk) (k : Sl) (md mr : PD) : Stays (St w g gr b10 b11 B0 x y own d k md mr) := fun _ _ h hb =>
  ⟨h.x10.grow hb, h.y11.grow hb, h.da.below hb, h.rd.below hb, h.ogr, h.ne, h.low, h.kp, h.o10, h.o11, h.ob, h.ok, h.mb.below hb, h.mi.below hb, h.two, h.l1, h.l2, h.bel.trans (hb.mono h.bel.size)⟩

theorem St.does {w V V' : World} {g gr b10 b11 B0 : Nat} {x y : Dv} {own : Nat → Nat} {d : Dk} {k : Sl} {md mr m' : PD} (h : St w g gr b10 b11 B0 x y own d k md mr V) (hA : After w.heap.size 1 g own V V' m') : ∃ own' d', St w g gr b10 b11 B0 x y own' d' k m' mr V' := by
  obtain ⟨own', d', hD, ho, hc⟩ := hA
  have hlt := h.rd.rc.lt
  have q10 : b10 < V.heap.size := World.block_lt_of_cell? _ _ h.x10.c0
  have q11 : b11 < V.heap.size := World.block_lt_of_cell? _ _ h.y11.c0
  have og := h.da.og
  exact ⟨own', d', h.x10.ch hc (far_mine og h.o10), h.y11.ch hc (far_mine og h.o11), hD, ⟨h.rd.rc.ch hc (far_mine og h.ogr), h.rd.keep.ch0 hc (fun a e h0 => not_mine (h.kp a e h0).2 (h.kp a e h0).1), h.rd.ne⟩, (ho gr hlt).trans h.ogr, h.ne, fun j hj => (ho j (Nat.lt_of_lt_of_le hj h.bel.size)).trans (h.low j hj), fun a e h0 => ⟨(ho _ (h.rd.keep.blk e h0)).trans (h.kp a e h0).1, (h.kp a e h0).2⟩, (ho _ q10).trans h.o10, (ho _ q11).trans h.o11, fun a e => (ho _ (h.mb.lt e).2).trans (h.ob a e), fun a e => (ho _ (h.mi.lt e).2).trans (h.ok a e), h.mb.ch hc (fun a e => far_mine og (h.ob a e)), h.mi.ch hc (fun a e => far_mine og (h.ok a e)), h.two, h.l1, h.l2, h.bel.trans (hc.mine_below h.bel.size h.da.bg h.low)⟩

theorem St.also {w V V' : World} {g gr b10 b11 B0 : Nat} {x y : Dv} {own : Nat → Nat} {d : Dk} {k : Sl} {md mr m' : PD} (h : St w g gr b10 b11 B0 x y own d k md mr V) (h10 : b10 ≠ gr) (h11 : b11 ≠ gr) (hA : RAfter gr k V V' m') : ∃ k', St w g gr b10 b11 B0 x y own d k' md m' V' := by
  obtain ⟨k', hR, hk, hc⟩ := hA
  have hlt := h.da.dc.lt
  have hgr : w.heap.size ≤ gr := Nat.le_of_not_lt fun e => by
    have := h.low gr e
    rw [h.ogr] at this
    unfold farM at this
    omega
  refine ⟨k', h.x10.ch hc h10, h.y11.ch hc h11, h.da.ch hc (fun e => h.ne e.symm) (fun i j hi e e2 => ?_) (fun a e e2 => ?_) (fun _ _ => rfl) (fun j hj => h.da.fr j (Nat.le_trans hc.size hj)), hR, h.ogr, h.ne, h.low, fun a e h0 => ?_, h.o10, h.o11, h.ob, h.ok, h.mb.ch hc (fun a e e2 => ?_), h.mi.ch hc (fun a e e2 => ?_), h.two, h.l1, h.l2, h.bel.trans (hc.below h.bel.size (fun j e => by rw [e]; exact hgr))⟩
  · change j = gr at e2
    rw [e2, h.ogr] at e
    unfold mark farM at e
    omega
  · change a.block = gr at e2
    have := (h.da.ok a e).1
    rw [e2, h.ogr] at this
    unfold farM at this
    omega
  · rcases hk a e h0 with e1 | e1
    · subst e1
      exact h.kp a e h0
    · exact ⟨h.da.fr _ e1, by omega⟩
  · change a.block = gr at e2
    have := (h.mb.lt e).1
    have := h.l2
    omega
  · change a.block = gr at e2
    have := (h.mi.lt e).1
    have := h.l2
    omega

theorem St.init {w wr wB V : World} {g gr b10 b11 : Nat} {x y : Dv} {own : Nat → Nat} {d : Dk} {k : Sl} {m : PD} {p1 : Option Addr} {c1 : Nat} {p2 : Option Addr} {c2 : Nat} (hBo : Both wr w.heap.size g gr own d k m) (hBr : Below w.heap.size w wr) (hbA : Below wr.heap.size wr wB) (hB : wB.heap.size = wr.heap.size + 2) (h10 : b10 = wr.heap.size) (h11 : b11 = wr.heap.size + 1) (h : PT3 wB b10 b11 x y p1 c1 p2 c2 V)
    (e1 : y.bq = p1) (e2 : y.bl = x.bl) (e3 : y.bc = c1) (e4 : y.kq = p2) (e5 : y.kl = x.kl) (e6 : y.kc = c2) (e7 : y.b = x.b) (e8 : y.keep = x.keep) :
    ∃ own', St w g gr b10 b11 wB.heap.size x y own' d k m m V := by
  have hc := h.2.2.2.2.2.2
  have hb8 : Below wr.heap.size wr V := hbA.trans (hc.below (by omega) (fun j e => by rw [e]; omega))
  have h8 := hBo.below hb8
  have glt := hBo.da.dc.lt
  have rlt := hBo.rd.rc.lt
  have slt := hBr.size
  have clt := hc.size
  have hlow : ∀ j, j < wr.heap.size → (fun j => if wr.heap.size ≤ j ∧ j < V.heap.size then farM else own j) j = own j := fun j hj => if_neg (by omega)
  have hfar : ∀ j, wr.heap.size ≤ j → j < V.heap.size → (fun j => if wr.heap.size ≤ j ∧ j < V.heap.size then farM else own j) j = farM := fun j h1 h2 => if_pos ⟨h1, h2⟩
  have q10 : b10 < V.heap.size := by omega
  have q11 : b11 < V.heap.size := by omega
  have o1 := h.2.2.2.1
  have o2 := h.2.2.2.2.1
  rw [← e1, ← e2, ← e3, ← e7] at o1
  rw [← e4, ← e5, ← e6, ← e8] at o2
  refine ⟨fun j => if wr.heap.size ≤ j ∧ j < V.heap.size then farM else own j, h.1, h.2.1, h8.da.reown (fun j e => hlow j (Nat.lt_of_not_le fun e2 => ?_)) ((hlow g glt).trans hBo.da.og) (fun a e => (hlow _ (hBo.da.ok a e).2.2).trans (hBo.da.ok a e).1) (fun j hj => (if_neg (by omega)).trans (h8.da.fr j hj)), h8.rd, ?_, hBo.ne, fun j hj => (hlow j (by omega)).trans (hBo.low j hj), fun a e h0 => ⟨(hlow _ (hBo.rd.keep.blk e h0)).trans (hBo.kp a e h0).1, (hBo.kp a e h0).2⟩, hfar _ (by omega) q10, hfar _ (by omega) q11, fun a e => hfar _ (by have := (o1.lt e).1; omega) (o1.lt e).2, fun a e => hfar _ (by have := (o2.lt e).1; omega) (o2.lt e).2, o1, o2, fun a b f1 f2 => h.2.2.2.2.2.1 a b (e1 ▸ f1) (e4 ▸ f2), by omega, by omega, hBr.trans (hb8.mono slt)⟩
  · have := hBo.da.fr j e2
    unfold mark at e
    omega
  · exact (hlow _ rlt).trans hBo.ogr

/-- Both disks, and the clones that may be written over. -/
structure Sm (w : World) (g gr b11 B0 : Nat) (y : Dv) (own : Nat → Nat) (d : Dk) (k : Sl) (m : PD) (V : World) : Prop where
  y11 : y.at V b11 0
  bo : Both V w.heap.size g gr own d k m
  mb : 0 < y.bl → ∃ b, y.bq = some ⟨b, 0, none⟩ ∧ own b = farM ∧ B0 ≤ b ∧ Mut .u8 V b y.bl
  mi : 0 < y.kl → ∃ b, y.kq = some ⟨b, 0, none⟩ ∧ own b = farM ∧ B0 ≤ b ∧ Mut .i64 V b y.kl
  two : ∀ a b : Addr, y.bq = some a → y.kq = some b → a.block ≠ b.block
  l1 : b11 < B0
  l2 : gr < B0
  bel : Below w.heap.size w V

theorem St.sm {w V : World} {g gr b10 b11 B0 : Nat} {x y : Dv} {own : Nat → Nat} {d : Dk} {k : Sl} {m : PD} (h : St w g gr b10 b11 B0 x y own d k m m V) : Sm w g gr b11 B0 y own d k m V :=
  ⟨h.y11, ⟨h.da, h.rd, h.ogr, h.ne, h.low, h.kp⟩, fun h0 => by obtain ⟨b, e, h1, _, h3⟩ := h.mb.mut h0; exact ⟨b, e, h.ob _ e, h1, h3⟩, fun h0 => by obtain ⟨b, e, h1, _, h3⟩ := h.mi.mut h0; exact ⟨b, e, h.ok _ e, h1, h3⟩, h.two, h.l1, h.l2, h.bel⟩

theorem Sm.below {w V V' : World} {g gr b11 B0 : Nat} {y : Dv} {own : Nat → Nat} {d : Dk} {k : Sl} {m : PD} (h : Sm w g gr b11 B0 y own d k m V) (hb : Below V.heap.size V V') : Sm w g gr b11 B0 y own d k m V' :=
  ⟨h.y11.grow hb, h.bo.below hb, fun h0 => by obtain ⟨b, e, h1, h2, h3⟩ := h.mb h0; exact ⟨b, e, h1, h2, h3.ch h0 (Ch.of_below hb (fun _ => False)) (fun e => e)⟩, fun h0 => by obtain ⟨b, e, h1, h2, h3⟩ := h.mi h0; exact ⟨b, e, h1, h2, h3.ch h0 (Ch.of_below hb (fun _ => False)) (fun e => e)⟩, h.two, h.l1, h.l2, h.bel.trans (hb.mono h.bel.size)⟩

theorem Both.far {w w' : World} {B g gr : Nat} {own : Nat → Nat} {d : Dk} {k : Sl} {m : PD} (h : Both w B g gr own d k m) {b : Nat} (hc : Ch (fun j => j = b) w w') (hb : own b = farM) (h2 : b ≠ gr) : Both w' B g gr own d k m :=
  h.apart hc (far_ne h.da.og hb) h2 (fun i hi e => by rw [hb] at e; unfold mark farM at e; omega) (fun x e e2 => far_ne (h.da.ok x e).1 hb e2.symm) (fun x e h0 e2 => far_ne (h.kp x e h0).1 hb e2.symm)

theorem Sm.setB {w V : World} {g gr b11 B0 : Nat} {y : Dv} {own : Nat → Nat} {d : Dk} {k : Sl} {m : PD} (h : Sm w g gr b11 B0 y own d k m V) {b : Nat} (h0 : 0 < y.bl) (e : y.bq = some ⟨b, 0, none⟩) (j : Nat) (v : Int) : Sm w g gr b11 B0 y own d k m (V.setCell ⟨b, j, none⟩ (.int .u8 v)) := by
  obtain ⟨b', e', h1, h2, h3⟩ := h.mb h0
  obtain rfl : b = b' := by rw [e] at e'; injection e' with e'; injection e'
  have hc := Ch.setCell V ⟨b, j, none⟩ (.int .u8 v)
  have q1 := h.l1
  have q2 := h.l2
  have hB : w.heap.size ≤ b := Nat.le_of_not_lt fun e => by
    have := h.bo.low b e
    rw [h1] at this
    unfold farM at this
    omega
  exact ⟨h.y11.other (by omega) _, h.bo.far (b := b) hc h1 (show b ≠ gr by omega), fun _ => ⟨b, e, h1, h2, h3.set j v⟩, fun h0' => by obtain ⟨b', f, g1, g2, g3⟩ := h.mi h0'; exact ⟨b', f, g1, g2, g3.ch h0' hc (fun e3 => h.two _ _ e f e3.symm)⟩, h.two, h.l1, h.l2, h.bel.trans (hc.below h.bel.size (fun j e => by rw [e]; exact hB))⟩

theorem Sm.setK {w V : World} {g gr b11 B0 : Nat} {y : Dv} {own : Nat → Nat} {d : Dk} {k : Sl} {m : PD} (h : Sm w g gr b11 B0 y own d k m V) {b : Nat} (h0 : 0 < y.kl) (e : y.kq = some ⟨b, 0, none⟩) (j : Nat) (v : Int) : Sm w g gr b11 B0 y own d k m (V.setCell ⟨b, j, none⟩ (.int .i64 v)) := by
  obtain ⟨b', e', h1, h2, h3⟩ := h.mi h0
  obtain rfl : b = b' := by rw [e] at e'; injection e' with e'; injection e'
  have hc := Ch.setCell V ⟨b, j, none⟩ (.int .i64 v)
  have q1 := h.l1
  have q2 := h.l2
  have hB : w.heap.size ≤ b := Nat.le_of_not_lt fun e => by
    have := h.bo.low b e
    rw [h1] at this
    unfold farM at this
    omega
  exact ⟨h.y11.other (by omega) _, h.bo.far (b := b) hc h1 (show b ≠ gr by omega), fun h0' => by obtain ⟨b', f, g1, g2, g3⟩ := h.mb h0'; exact ⟨b', f, g1, g2, g3.ch h0' hc (fun e3 => h.two _ _ f e e3)⟩, fun _ => ⟨b, e, h1, h2, h3.set j v⟩, h.two, h.l1, h.l2, h.bel.trans (hc.below h.bel.size (fun j e => by rw [e]; exact hB))⟩

/-- Both disks, and a row that was made after them. -/
theorem Both.fresh {w w' w'' : World} {B g gr : Nat} {own : Nat → Nat} {d : Dk} {k : Sl} {m : PD} (h : Both w B g gr own d k m) (hb : Below w.heap.size w w') {b : Nat} (hc : Ch (fun j => j = b) w' w'') (hnew : w.heap.size ≤ b) : Both w'' B g gr own d k m := by
  have := hb.size
  exact h.below (hb.trans (hc.below this (fun j e => by rw [e]; exact hnew)))

theorem Both.used {W : World} {B g gr : Nat} {own : Nat → Nat} {d : Dk} {k : Sl} {m : PD} (h : Both W B g gr own d k m) {s : Nat} (hm : m.ok s) (hs : s ≤ 549755813888) : Calls Try.prog 17 #[.pointer (some ⟨g, 0, none⟩)] W fun e w' => e = .returned (.int .i64 m.used) ∧ Below W.heap.size W w' := by
  have := used_any W g d h.da.dc (by rw [h.da.room]; exact hm.r0) (fun j hj => by rw [fl_tn h.da hj]; have := hm.told j hj; omega)
  rw [used_eq h.da] at this
  exact this.mono (by rintro e w' ⟨rfl, rfl⟩; exact ⟨rfl, Below.refl _ _⟩)

theorem Both.rused {W : World} {B g gr : Nat} {own : Nat → Nat} {d : Dk} {k : Sl} {m : PD} (h : Both W B g gr own d k m) {s : Nat} (hm : m.ok s) (hs : s ≤ 549755813888) : Calls Try.prog 18 #[.pointer (some ⟨gr, 0, none⟩)] W fun e w' => e = .returned (.int .i64 m.used) ∧ Below W.heap.size W w' :=
  rused_any W gr m k h.rd.rc (fun j hj => Nat.le_trans (hm.told j hj) hs)

theorem Both.read_bad {W : World} {B g gr : Nat} {own : Nat → Nat} {d : Dk} {k : Sl} {m : PD} (h : Both W B g gr own d k m) (hr : 0 < m.room) (i : Int) (hi : m.down = true ∨ (i < 0 ∨ 8 ≤ i)) : Calls Try.prog 19 #[.pointer (some ⟨g, 0, none⟩), .int .i64 i] W fun e w' => e = .returned (.tuple #[.slice none 0 0, .int .i64 (badE m.down)]) ∧ w' = W :=
  Read_bad W g i _ (badE_ne _) (file_bad W B own 1 g d m h.da hr i hi)

theorem Both.rread_bad {W : World} {B g gr : Nat} {own : Nat → Nat} {d : Dk} {k : Sl} {m : PD} (h : Both W B g gr own d k m) (i : Int) (hi : m.down = true ∨ (i < 0 ∨ 8 ≤ i)) : Calls Try.prog 20 #[.pointer (some ⟨gr, 0, none⟩), .int .i64 i] W fun e w' => e = .returned (.tuple #[.slice none 0 0, .int .i64 (badE m.down)]) ∧ w' = W := by
  have hM := rmay_any W gr m k h.rd.rc i
  have e : (if m.down then (50 : Int) else if i < 0 ∨ 8 ≤ i then 51 else 0) = badE m.down := by
    cases hd : m.down with
    | true => rfl
    | false =>
      rw [hd] at hi
      exact if_pos (hi.resolve_left (by decide))
  rw [e] at hM
  exact rRead_bad W gr i _ (badE_ne _) hM

end Go.Proofs.Ytcgpdaalehgjdaa.M
