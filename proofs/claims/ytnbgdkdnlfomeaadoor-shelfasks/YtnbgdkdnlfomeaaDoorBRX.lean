/-
  Own text: the epoch of an index.
  Own text: the document's shelf in memory: Epoch, Known, Cell.
  Own text: the document's shelf in memory: Known.
  Own text: the document's shelf in memory: Cell.
  Own text: the document's shelf in memory: Of.
  Own text: the document's shelf in memory: the program's Of.
  Own text: the document's shelf in memory: Less.
  Own text: the document's Put in plain words: lists with a record more are those of the sums with it.
  Own text: the document's shelf in memory: Put.
  Own text: the document's shelf in memory: Put, the walk.
  Own text: the document's shelf in memory: UpTo, Last.
  Own text: the document's shelf in memory: Behind.
  Own text: the document's shelf made of a shelf's table and records answers as the shelf (plain words).
  Own text: the document's shelf beside a shelf: the same questions, the same answers.
-/
import Derived.Test.YtnbgdkdnlfomeaaDoorBBe
import Derived.Test.YtnbgdkdnlfomeaaDoorBXt
namespace Go.Proofs.YtnbgdkdnlfomeaaDoor.M
open Go.ChangeShapes Go.WideShapes Go.ChangeAt Go.RowKit Go.ChangeMaps Go.MapKept Go.Maps Go.Shelf Go.Proofs
set_option linter.unusedSimpArgs false

set_option maxRecDepth 20000 in
set_option maxHeartbeats 1000000 in
theorem epoch_out {w : World} {g b : Nat} {p : Option Addr} {n c : Nat} {s : Sh} (h : ShB w g b p n c s) (i : Int) (hi : ¬ s.isAt i) :
    Calls Tryd.prog 18 #[.pointer (some ⟨g, 0, none⟩), .int .i64 i] w fun e w' => e = .returned (.tuple #[.int .i64 0, .bool false]) ∧ Below w.heap.size w w' := by
  have hm := h.made
  have hL := last_any h
  obtain ⟨⟨c0, _⟩, _⟩ := h.cells
  unfold Sh.isAt at hi
  generalize s.last = y at *
  generalize s.low.ix = x at *
  by_cases h1 : i < x
  · go_enter Tryd.func18, Tryd.ntmps18
    go_wp2_with fail
    refine hm.mono ?_
    rintro e w1 ⟨rfl, rfl⟩
    clear hm
    go_wp2_with fail
    exact bodyPost_ret (v := .tuple #[.int .i64 0, .bool false]) (by simp [results, Tryd.results18, go_sem]) rfl ⟨rfl, Below.refl _ _⟩
  · have h2 : y < i := by omega
    go_enter Tryd.func18, Tryd.ntmps18
    go_wp2_with fail
    refine hm.mono ?_
    rintro e w1 ⟨rfl, rfl⟩
    clear hm
    go_wp2_with fail
    refine hL.mono ?_
    rintro e w2 ⟨rfl, hb⟩
    clear hL
    go_wp2_with fail
    exact bodyPost_ret (v := .tuple #[.int .i64 0, .bool false]) (by simp [results, Tryd.results18, go_sem]) rfl ⟨rfl, hb⟩

/-- The epoch of an index. -/
def Sh.epE (s : Sh) (i : Int) : Int := (endS s.low (s.tail.take (i - s.low.ix).toNat)).2

set_option maxRecDepth 20000 in
set_option maxHeartbeats 1000000 in
theorem epoch_in {w : World} {g b : Nat} {p : Option Addr} {n c : Nat} {s : Sh} (h : ShB w g b p n c s) (i : Int) (hi : s.isAt i) :
    Calls Tryd.prog 18 #[.pointer (some ⟨g, 0, none⟩), .int .i64 i] w fun e w' => e = .returned (.tuple #[.int .i64 (s.epE i), .bool true]) ∧ Below w.heap.size w w' := by
  have hm := h.made
  have hL := last_any h
  have hU := fun W (hb : Below w.heap.size w W) => upTo_any (h.below hb) i hi.1 hi.2
  obtain ⟨⟨c0, _⟩, _⟩ := h.cells
  obtain ⟨h1, h2⟩ := hi
  have hln := h.len
  have hyl : s.last = s.low.ix + (s.tail.length : Nat) := rfl
  have hfw := h.inv.few
  have hkn : (i - s.low.ix).toNat ≤ n := by omega
  have hE := fun W (hb : Below w.heap.size w W) => end_any (h.below hb).cells.1.1 (h.below hb).cells.1.2.1 ((h.tl.rd.below hb).front hkn) (by omega)
  have he : s.epE i = (endS s.low (s.tail.take (i - s.low.ix).toNat)).2 := rfl
  rw [he]
  generalize (endS s.low (s.tail.take (i - s.low.ix).toNat)).2 = z at *
  generalize (endS s.low (s.tail.take (i - s.low.ix).toNat)).1 = z1 at *
  generalize (i - s.low.ix).toNat = k at *
  generalize s.last = y at *
  generalize s.low.ix = x at *
  have h1n : ¬ i < x := by omega
  have h2n : ¬ y < i := by omega
  clear he hyl hln hfw hkn h
  go_enter Tryd.func18, Tryd.ntmps18
  go_wp2_with fail
  refine hm.mono ?_
  rintro e w1 ⟨rfl, rfl⟩
  clear hm
  go_wp2_with fail
  refine hL.mono ?_
  rintro e w2 ⟨rfl, hb⟩
  clear hL
  go_wp2_with fail
  refine (hU _ hb).mono ?_
  rintro e w3 ⟨rfl, hb3⟩
  have hbb := hb.trans (hb3.mono hb.size)
  clear hU hb hb3
  go_wp2_with fail
  refine (hE _ hbb).mono ?_
  rintro e w4 ⟨rfl, hb4⟩
  clear hE
  go_wp2_with fail
  exact bodyPost_ret (v := .tuple #[.int .i64 z, .bool true]) (by simp [results, Tryd.results18, go_sem]) rfl ⟨rfl, hbb.trans (hb4.mono hbb.size)⟩

end Go.Proofs.YtnbgdkdnlfomeaaDoor.M

namespace Go.Proofs.YtnbgdkdnlfomeaaDoor.M
open Go.ChangeShapes Go.WideShapes Go.ChangeAt Go.RowKit Go.ChangeMaps Go.MapKept Go.Maps Go.Shelf Go.Proofs
set_option linter.unusedSimpArgs false

/-- The document's shelf in block g. -/
structure RX (w : World) (g : Nat) (ix ep : Int) (cp : Option Addr) (cn cc : Nat) (C : List Ce) (dp : Option Addr) (dn dc : Nat) (D : List Dn) (rp : Option Addr) (rn rc : Nat) (R : List Rc) (com : Int) : Prop where
  blk : At 43 w g #[.int .i64 ix, .int .i64 ep, .slice cp cn cc, .slice dp dn dc, .slice rp rn rc, .int .i64 com]
  c : RdG celS w cp cn cc C
  d : RdG donS w dp dn dc D
  r : RdG recS w rp rn rc R
  nr : rn ≤ 1000
  nc : cn ≤ 1000
  nd : dn ≤ 1000

theorem RX.below {w W : World} {g : Nat} {ix ep : Int} {cp : Option Addr} {cn cc : Nat} {C : List Ce} {dp : Option Addr} {dn dc : Nat} {D : List Dn} {rp : Option Addr} {rn rc : Nat} {R : List Rc} {com : Int} (h : RX w g ix ep cp cn cc C dp dn dc D rp rn rc R com) (hb : Below w.heap.size w W) : RX W g ix ep cp cn cc C dp dn dc D rp rn rc R com :=
  ⟨h.blk.below hb, h.c.below hb, h.d.below hb, h.r.below hb, h.nr, h.nc, h.nd⟩

/-- The first of a list that is one, as something is told of it. -/
def pick1 {T A : Type} (l : List T) (p : T → Bool) (f : T → A) (z : A) : A := match l.find? p with
  | some x => f x
  | none => z

theorem pick1_skip {T A : Type} {l : List T} {p : T → Bool} {f : T → A} {z : A} {y : T} {k : Nat} (hk : k < l.length) (h : p (l.getD k y) = false) : pick1 (l.drop k) p f z = pick1 (l.drop (k + 1)) p f z := by
  unfold pick1
  rw [List.getD_eq_getElem?_getD, List.getElem?_eq_getElem hk] at h
  rw [List.drop_eq_getElem_cons hk, List.find?_cons_of_neg]
  simpa using h

theorem pick1_hit {T A : Type} {l : List T} {p : T → Bool} {f : T → A} {z : A} {y : T} {k : Nat} (hk : k < l.length) (h : p (l.getD k y) = true) : pick1 (l.drop k) p f z = f (l.getD k y) := by
  unfold pick1
  rw [List.getD_eq_getElem?_getD, List.getElem?_eq_getElem hk] at *
  rw [List.drop_eq_getElem_cons hk, List.find?_cons_of_pos]
  · rfl
  · simpa using h

theorem pick1_end {T A : Type} {l : List T} {p : T → Bool} {f : T → A} {z : A} {k : Nat} (hk : l.length ≤ k) : pick1 (l.drop k) p f z = z := by
  unfold pick1
  rw [List.drop_of_length_le hk]
  rfl

def rEp (ix ep : Int) (R : List Rc) (i : Int) : Int × Bool := if i = ix then (ep, true) else pick1 R (fun x => x.ix == i) (fun x => (x.ep, true)) (0, false)

def rKn (com : Int) (R : List Rc) (D : List Dn) (kc kq : Int) : Int × Bool := pick1 R (fun x => x.c == kc && x.q == kq) (fun x => (x.v, decide (x.ix ≤ com))) (pick1 D (fun d => d.c == kc && d.q == kq) (fun d => (d.v, true)) (0, false))

set_option maxRecDepth 20000 in
set_option maxHeartbeats 2000000 in
theorem rEpoch_any {w : World} {g : Nat} {ix ep : Int} {cp : Option Addr} {cn cc : Nat} {C : List Ce} {dp : Option Addr} {dn dc : Nat} {D : List Dn} {rp : Option Addr} {rn rc : Nat} {R : List Rc} {com : Int} (h : RX w g ix ep cp cn cc C dp dn dc D rp rn rc R com) (qi : Int) :
    Calls Tryd.prog 19 #[.pointer (some ⟨g, 0, none⟩), .int .i64 qi] w fun e w' => e = .returned (.tuple #[.int .i64 (rEp ix ep R qi).1, .bool (rEp ix ep R qi).2]) ∧ Below w.heap.size w w' := by
  have hr := h.r
  have hnr := h.nr
  have x0 := At.cell h.blk 0
  have x1 := At.cell h.blk 1
  have x4 := At.cell h.blk 4
  simp only [List.getElem?_toArray, List.getElem?_cons_zero, List.getElem?_cons_succ] at x0 x1 x4
  by_cases hi : qi = ix
  · have hib : (qi == ix) = true := by simpa using hi
    have HA : Hid (rEp ix ep R qi = (ep, true)) := if_pos hi
    generalize rEp ix ep R qi = A at *
    clear hi
    go_enter Tryd.func19, Tryd.ntmps19
    go_wp2_with fail
    have HBE := Below.refl w.heap.size w
    rw [HA.out]
    exact bodyPost_ret (v := .tuple #[.int .i64 ep, .bool true]) (by simp [results, Tryd.results19, go_sem]) rfl ⟨rfl, HBE⟩
  · have hib : (qi == ix) = false := by simpa using hi
    have HA : Hid (rEp ix ep R qi = pick1 (R.drop 0) (fun x => x.ix == qi) (fun x => (x.ep, true)) (0, false)) := if_neg hi
    generalize rEp ix ep R qi = A at *
    clear hi h
    obtain ⟨w0, hw0⟩ : ∃ w0, w0 = w := ⟨_, rfl⟩
    have HW0 : Below w0.heap.size w0 w := by rw [hw0]; exact Below.refl _ _
    have hr0 : RdG recS w0 rp rn rc R := by rw [hw0]; exact hr
    rw [show Below w.heap.size w = Below w0.heap.size w0 from by rw [hw0]]
    clear hw0 hr
    go_enter Tryd.func19, Tryd.ntmps19
    go_wp2_with fail
    clear x0 x1 x4
    go_loopw [25] (fun i wr => ∃ (k : Nat), k ≤ rn ∧ i = .int .i64 k ∧ Below w0.heap.size w0 wr ∧ Hid (A = pick1 (R.drop k) (fun x => x.ix == qi) (fun x => (x.ep, true)) (0, false))) (fun i _ => rn - (intOf i).toNat)
    case atStart => exact ⟨0, Nat.zero_le _, rfl, HW0, HA⟩
    case round =>
      clear HA HW0
      obtain ⟨k, hk, rfl, hb, HA⟩ := hrel
      by_cases hkn : k < rn
      · as_aux_lemma =>
        have hki : (k : Int) < (rn : Int) := by omega
        obtain ⟨bb, o, rfl, _⟩ := hr0.at (by omega)
        have hkl : k < R.length := by rw [hr0.len]; exact hkn
        have hrk := hr0.rangeB hb hkn
        have HS : Hid ((fun x : Rc => x.ix == qi)  (R.getD k recS.z) = false → A = pick1 (R.drop (k + 1)) (fun x => x.ix == qi) (fun x => (x.ep, true)) (0, false)) := fun e => by rw [HA.out, pick1_skip hkl e]
        have HH : Hid ((fun x : Rc => x.ix == qi) (R.getD k recS.z) = true → A = (fun x : Rc => (x.ep, true)) (R.getD k recS.z)) := fun e => by rw [HA.out, pick1_hit hkl e]
        clear HA hkl
        have hrk' : wr.rangeAt bb (o + k * 14) [.int .i64 (R.getD k recS.z).ix, .int .i64 (R.getD k recS.z).ep, .int .u8 (bt (R.getD k recS.z).k 0), .int .u8 (bt (R.getD k recS.z).k 1), .int .u8 (bt (R.getD k recS.z).k 2), .int .u8 (bt (R.getD k recS.z).k 3), .int .u8 (bt (R.getD k recS.z).k 4), .int .u8 (bt (R.getD k recS.z).k 5), .int .u8 (bt (R.getD k recS.z).k 6), .int .u8 (bt (R.getD k recS.z).k 7), .int .i64 (R.getD k recS.z).v, .string (R.getD k recS.z).s, .int .i64 (R.getD k recS.z).c, .int .i64 (R.getD k recS.z).q] := hrk
        clear hrk
        generalize R.getD k recS.z = x at *
        obtain ⟨xi, xe, xk, xv, xs, xc, xq⟩ := x
        dsimp only at HS HH hrk'
        have hX0 := At.new 64 wr #[.int .i64 0, .int .i64 0, .int .u8 0, .int .u8 0, .int .u8 0, .int .u8 0, .int .u8 0, .int .u8 0, .int .u8 0, .int .u8 0, .int .i64 0, .string ⟨#[]⟩, .int .i64 0, .int .i64 0]
        have hXr := hX0.row #[.int .i64 (Rc.mk xi xe xk xv xs xc xq).ix, .int .i64 (Rc.mk xi xe xk xv xs xc xq).ep, .int .u8 (bt (Rc.mk xi xe xk xv xs xc xq).k 0), .int .u8 (bt (Rc.mk xi xe xk xv xs xc xq).k 1), .int .u8 (bt (Rc.mk xi xe xk xv xs xc xq).k 2), .int .u8 (bt (Rc.mk xi xe xk xv xs xc xq).k 3), .int .u8 (bt (Rc.mk xi xe xk xv xs xc xq).k 4), .int .u8 (bt (Rc.mk xi xe xk xv xs xc xq).k 5), .int .u8 (bt (Rc.mk xi xe xk xv xs xc xq).k 6), .int .u8 (bt (Rc.mk xi xe xk xv xs xc xq).k 7), .int .i64 (Rc.mk xi xe xk xv xs xc xq).v, .string (Rc.mk xi xe xk xv xs xc xq).s, .int .i64 (Rc.mk xi xe xk xv xs xc xq).c, .int .i64 (Rc.mk xi xe xk xv xs xc xq).q]
        have hba : Below wr.heap.size wr ((wr.alloc (.cells #[.int .i64 0, .int .i64 0, .int .u8 0, .int .u8 0, .int .u8 0, .int .u8 0, .int .u8 0, .int .u8 0, .int .u8 0, .int .u8 0, .int .i64 0, .string ⟨#[]⟩, .int .i64 0, .int .i64 0] 64)).setRow wr.heap.size #[.int .i64 (Rc.mk xi xe xk xv xs xc xq).ix, .int .i64 (Rc.mk xi xe xk xv xs xc xq).ep, .int .u8 (bt (Rc.mk xi xe xk xv xs xc xq).k 0), .int .u8 (bt (Rc.mk xi xe xk xv xs xc xq).k 1), .int .u8 (bt (Rc.mk xi xe xk xv xs xc xq).k 2), .int .u8 (bt (Rc.mk xi xe xk xv xs xc xq).k 3), .int .u8 (bt (Rc.mk xi xe xk xv xs xc xq).k 4), .int .u8 (bt (Rc.mk xi xe xk xv xs xc xq).k 5), .int .u8 (bt (Rc.mk xi xe xk xv xs xc xq).k 6), .int .u8 (bt (Rc.mk xi xe xk xv xs xc xq).k 7), .int .i64 (Rc.mk xi xe xk xv xs xc xq).v, .string (Rc.mk xi xe xk xv xs xc xq).s, .int .i64 (Rc.mk xi xe xk xv xs xc xq).c, .int .i64 (Rc.mk xi xe xk xv xs xc xq).q]) := (below_alloc' wr (.cells #[.int .i64 0, .int .i64 0, .int .u8 0, .int .u8 0, .int .u8 0, .int .u8 0, .int .u8 0, .int .u8 0, .int .u8 0, .int .u8 0, .int .i64 0, .string ⟨#[]⟩, .int .i64 0, .int .i64 0] 64)).trans (below_setRow _ _ _ (Nat.le_refl _))
        have hb2 := hb.trans (hba.mono hb.size)
        have y0 := At.cell hXr 0
        have y1 := At.cell hXr 1
        simp only [List.getElem?_toArray, List.getElem?_cons_zero, List.getElem?_cons_succ] at y0 y1
        dsimp only at *
        clear hba hb hXr
        by_cases ht : (xi == qi) = true
        case neg =>
          replace ht : (xi == qi) = false := by simpa using ht
          have HAn : Hid (A = pick1 (R.drop (k + 1)) (fun x => x.ix == qi) (fun x => (x.ep, true)) (0, false)) := HS.out ht
          clear HS HH
          go_wp2_with (first | refine wpList_load_mid rfl 64 _ rfl bb (o + k * 14) rfl _ _ hrk' Tryd.underlying64 rfl infoRc ?_ | refine wpList_store_row rfl 64 _ _ rfl wr.heap.size #[.int .i64 (Rc.mk xi xe xk xv xs xc xq).ix, .int .i64 (Rc.mk xi xe xk xv xs xc xq).ep, .int .u8 (bt (Rc.mk xi xe xk xv xs xc xq).k 0), .int .u8 (bt (Rc.mk xi xe xk xv xs xc xq).k 1), .int .u8 (bt (Rc.mk xi xe xk xv xs xc xq).k 2), .int .u8 (bt (Rc.mk xi xe xk xv xs xc xq).k 3), .int .u8 (bt (Rc.mk xi xe xk xv xs xc xq).k 4), .int .u8 (bt (Rc.mk xi xe xk xv xs xc xq).k 5), .int .u8 (bt (Rc.mk xi xe xk xv xs xc xq).k 6), .int .u8 (bt (Rc.mk xi xe xk xv xs xc xq).k 7), .int .i64 (Rc.mk xi xe xk xv xs xc xq).v, .string (Rc.mk xi xe xk xv xs xc xq).s, .int .i64 (Rc.mk xi xe xk xv xs xc xq).c, .int .i64 (Rc.mk xi xe xk xv xs xc xq).q] rfl rfl _ _ hX0 infoRc rfl (by simp [Value.oneCell']) ?_)
          exact ⟨⟨k + 1, by omega, by go_num, hb2, HAn⟩, by simp [intOf]; omega⟩
        case pos =>
          have HAn := HH.out ht
          have HAh : Hid (A = _) := HAn
          clear HS HH HAn
          go_wp2_with (first | refine wpList_load_mid rfl 64 _ rfl bb (o + k * 14) rfl _ _ hrk' Tryd.underlying64 rfl infoRc ?_ | refine wpList_store_row rfl 64 _ _ rfl wr.heap.size #[.int .i64 (Rc.mk xi xe xk xv xs xc xq).ix, .int .i64 (Rc.mk xi xe xk xv xs xc xq).ep, .int .u8 (bt (Rc.mk xi xe xk xv xs xc xq).k 0), .int .u8 (bt (Rc.mk xi xe xk xv xs xc xq).k 1), .int .u8 (bt (Rc.mk xi xe xk xv xs xc xq).k 2), .int .u8 (bt (Rc.mk xi xe xk xv xs xc xq).k 3), .int .u8 (bt (Rc.mk xi xe xk xv xs xc xq).k 4), .int .u8 (bt (Rc.mk xi xe xk xv xs xc xq).k 5), .int .u8 (bt (Rc.mk xi xe xk xv xs xc xq).k 6), .int .u8 (bt (Rc.mk xi xe xk xv xs xc xq).k 7), .int .i64 (Rc.mk xi xe xk xv xs xc xq).v, .string (Rc.mk xi xe xk xv xs xc xq).s, .int .i64 (Rc.mk xi xe xk xv xs xc xq).c, .int .i64 (Rc.mk xi xe xk xv xs xc xq).q] rfl rfl _ _ hX0 infoRc rfl (by simp [Value.oneCell']) ?_)
          have HBE := hb2
          rw [HAh.out]
          exact bodyPost_ret (v := .tuple #[.int .i64 xe, .bool true]) (by simp [results, Tryd.results19, go_sem]) rfl ⟨rfl, HBE⟩
      · as_aux_lemma =>
        have hki : ¬ (k : Int) < (rn : Int) := by omega
        have HE := HA.out
        rw [pick1_end (by rw [hr0.len]; omega)] at HE
        have HEh : Hid (A = _) := HE
        clear HE HA
        go_wp2_with fail
        have HBE := hb
        rw [HEh.out]
        exact bodyPost_ret (v := .tuple #[.int .i64 0, .bool false]) (by simp [results, Tryd.results19, go_sem]) rfl ⟨rfl, HBE⟩

end Go.Proofs.YtnbgdkdnlfomeaaDoor.M

namespace Go.Proofs.YtnbgdkdnlfomeaaDoor.M
open Go.ChangeShapes Go.WideShapes Go.ChangeAt Go.RowKit Go.ChangeMaps Go.MapKept Go.Maps Go.Shelf Go.Proofs
set_option linter.unusedSimpArgs false

set_option maxRecDepth 20000 in
set_option maxHeartbeats 2000000 in
theorem rKnown_any {w : World} {g : Nat} {ix ep : Int} {cp : Option Addr} {cn cc : Nat} {C : List Ce} {dp : Option Addr} {dn dc : Nat} {D : List Dn} {rp : Option Addr} {rn rc : Nat} {R : List Rc} {com : Int} (h : RX w g ix ep cp cn cc C dp dn dc D rp rn rc R com) (kc kq : Int) :
    Calls Tryd.prog 21 #[.pointer (some ⟨g, 0, none⟩), .agg #[.int .i64 kc, .int .i64 kq]] w fun e w' => e = .returned (.tuple #[.int .i64 (rKn com R D kc kq).1, .bool (rKn com R D kc kq).2]) ∧ Below w.heap.size w w' := by
  have HB := below_alloc' w (.cells #[.int .i64 kc, .int .i64 kq] 30)
  have hQ := At.new 30 w #[.int .i64 kc, .int .i64 kq]
  have hX := h.below HB
  have HA : Hid (rKn com R D kc kq = pick1 (R.drop 0) (fun x => x.c == kc && x.q == kq) (fun x => (x.v, decide (x.ix ≤ com))) (pick1 D (fun d => d.c == kc && d.q == kq) (fun d => (d.v, true)) (0, false))) := rfl
  generalize rKn com R D kc kq = A at *
  have hr0 := hX.r
  have hd0 := hX.d
  have hnr := hX.nr
  have hnd := hX.nd
  have x4 := At.cell hX.blk 4
  simp only [List.getElem?_toArray, List.getElem?_cons_zero, List.getElem?_cons_succ] at x4
  have hBk := hX.blk
  clear h hX
  go_enter Tryd.func21, Tryd.ntmps21
  go_wp2_with fail
  generalize (w.alloc (.cells #[.int .i64 kc, .int .i64 kq] 30)) = w0 at *
  have HW0 : Below w0.heap.size w0 w0 := Below.refl _ _
  clear x4
  go_loopw [15] (fun i wr => ∃ (k : Nat), k ≤ rn ∧ i = .int .i64 k ∧ Below w0.heap.size w0 wr ∧ Hid (A = pick1 (R.drop k) (fun x => x.c == kc && x.q == kq) (fun x => (x.v, decide (x.ix ≤ com))) (pick1 D (fun d => d.c == kc && d.q == kq) (fun d => (d.v, true)) (0, false)))) (fun i _ => rn - (intOf i).toNat)
  case atStart => exact ⟨0, Nat.zero_le _, rfl, HW0, HA⟩
  case round =>
    clear HA HW0
    obtain ⟨k, hk, rfl, hb, HA⟩ := hrel
    by_cases hkn : k < rn
    · as_aux_lemma =>
      have hki : (k : Int) < (rn : Int) := by omega
      obtain ⟨bb, o, rfl, _⟩ := hr0.at (by omega)
      have hkl : k < R.length := by rw [hr0.len]; exact hkn
      have hrk := hr0.rangeB hb hkn
      have HS : Hid ((fun x : Rc => x.c == kc && x.q == kq)  (R.getD k recS.z) = false → A = pick1 (R.drop (k + 1)) (fun x => x.c == kc && x.q == kq) (fun x => (x.v, decide (x.ix ≤ com))) (pick1 D (fun d => d.c == kc && d.q == kq) (fun d => (d.v, true)) (0, false))) := fun e => by rw [HA.out, pick1_skip hkl e]
      have HH : Hid ((fun x : Rc => x.c == kc && x.q == kq) (R.getD k recS.z) = true → A = (fun x : Rc => (x.v, decide (x.ix ≤ com))) (R.getD k recS.z)) := fun e => by rw [HA.out, pick1_hit hkl e]
      clear HA hkl
      have hrk' : wr.rangeAt bb (o + k * 14) [.int .i64 (R.getD k recS.z).ix, .int .i64 (R.getD k recS.z).ep, .int .u8 (bt (R.getD k recS.z).k 0), .int .u8 (bt (R.getD k recS.z).k 1), .int .u8 (bt (R.getD k recS.z).k 2), .int .u8 (bt (R.getD k recS.z).k 3), .int .u8 (bt (R.getD k recS.z).k 4), .int .u8 (bt (R.getD k recS.z).k 5), .int .u8 (bt (R.getD k recS.z).k 6), .int .u8 (bt (R.getD k recS.z).k 7), .int .i64 (R.getD k recS.z).v, .string (R.getD k recS.z).s, .int .i64 (R.getD k recS.z).c, .int .i64 (R.getD k recS.z).q] := hrk
      clear hrk
      generalize R.getD k recS.z = x at *
      obtain ⟨xi, xe, xk, xv, xs, xc, xq⟩ := x
      dsimp only at HS HH hrk'
      have hX0 := At.new 64 wr #[.int .i64 0, .int .i64 0, .int .u8 0, .int .u8 0, .int .u8 0, .int .u8 0, .int .u8 0, .int .u8 0, .int .u8 0, .int .u8 0, .int .i64 0, .string ⟨#[]⟩, .int .i64 0, .int .i64 0]
      have hXr := hX0.row #[.int .i64 (Rc.mk xi xe xk xv xs xc xq).ix, .int .i64 (Rc.mk xi xe xk xv xs xc xq).ep, .int .u8 (bt (Rc.mk xi xe xk xv xs xc xq).k 0), .int .u8 (bt (Rc.mk xi xe xk xv xs xc xq).k 1), .int .u8 (bt (Rc.mk xi xe xk xv xs xc xq).k 2), .int .u8 (bt (Rc.mk xi xe xk xv xs xc xq).k 3), .int .u8 (bt (Rc.mk xi xe xk xv xs xc xq).k 4), .int .u8 (bt (Rc.mk xi xe xk xv xs xc xq).k 5), .int .u8 (bt (Rc.mk xi xe xk xv xs xc xq).k 6), .int .u8 (bt (Rc.mk xi xe xk xv xs xc xq).k 7), .int .i64 (Rc.mk xi xe xk xv xs xc xq).v, .string (Rc.mk xi xe xk xv xs xc xq).s, .int .i64 (Rc.mk xi xe xk xv xs xc xq).c, .int .i64 (Rc.mk xi xe xk xv xs xc xq).q]
      have hba : Below wr.heap.size wr ((wr.alloc (.cells #[.int .i64 0, .int .i64 0, .int .u8 0, .int .u8 0, .int .u8 0, .int .u8 0, .int .u8 0, .int .u8 0, .int .u8 0, .int .u8 0, .int .i64 0, .string ⟨#[]⟩, .int .i64 0, .int .i64 0] 64)).setRow wr.heap.size #[.int .i64 (Rc.mk xi xe xk xv xs xc xq).ix, .int .i64 (Rc.mk xi xe xk xv xs xc xq).ep, .int .u8 (bt (Rc.mk xi xe xk xv xs xc xq).k 0), .int .u8 (bt (Rc.mk xi xe xk xv xs xc xq).k 1), .int .u8 (bt (Rc.mk xi xe xk xv xs xc xq).k 2), .int .u8 (bt (Rc.mk xi xe xk xv xs xc xq).k 3), .int .u8 (bt (Rc.mk xi xe xk xv xs xc xq).k 4), .int .u8 (bt (Rc.mk xi xe xk xv xs xc xq).k 5), .int .u8 (bt (Rc.mk xi xe xk xv xs xc xq).k 6), .int .u8 (bt (Rc.mk xi xe xk xv xs xc xq).k 7), .int .i64 (Rc.mk xi xe xk xv xs xc xq).v, .string (Rc.mk xi xe xk xv xs xc xq).s, .int .i64 (Rc.mk xi xe xk xv xs xc xq).c, .int .i64 (Rc.mk xi xe xk xv xs xc xq).q]) := (below_alloc' wr (.cells #[.int .i64 0, .int .i64 0, .int .u8 0, .int .u8 0, .int .u8 0, .int .u8 0, .int .u8 0, .int .u8 0, .int .u8 0, .int .u8 0, .int .i64 0, .string ⟨#[]⟩, .int .i64 0, .int .i64 0] 64)).trans (below_setRow _ _ _ (Nat.le_refl _))
      have hb2 := hb.trans (hba.mono hb.size)
      have y0 := At.cell hXr 0
      have y10 := At.cell hXr 10
      have y12 := At.cell hXr 12
      have y13 := At.cell hXr 13
      simp only [List.getElem?_toArray, List.getElem?_cons_zero, List.getElem?_cons_succ] at y0 y10 y12 y13
      have q0 := At.cell (hQ.below hb2) 0
      have q1 := At.cell (hQ.below hb2) 1
      have x5 := At.cell (hBk.below hb2) 5
      simp only [List.getElem?_toArray, List.getElem?_cons_zero, List.getElem?_cons_succ] at q0 q1 x5
      have hE := fun W => eql_req xc xq kc kq W
      dsimp only at *
      clear hba hb hXr
      generalize (xc == kc && xq == kq) = t at *
      cases t
      case false =>
        have HAn : Hid (A = pick1 (R.drop (k + 1)) (fun x => x.c == kc && x.q == kq) (fun x => (x.v, decide (x.ix ≤ com))) (pick1 D (fun d => d.c == kc && d.q == kq) (fun d => (d.v, true)) (0, false))) := HS.out rfl
        clear HS HH
        go_wp2_with (first | refine wpList_load_mid rfl 64 _ rfl bb (o + k * 14) rfl _ _ hrk' Tryd.underlying64 rfl infoRc ?_ | refine wpList_store_row rfl 64 _ _ rfl wr.heap.size #[.int .i64 (Rc.mk xi xe xk xv xs xc xq).ix, .int .i64 (Rc.mk xi xe xk xv xs xc xq).ep, .int .u8 (bt (Rc.mk xi xe xk xv xs xc xq).k 0), .int .u8 (bt (Rc.mk xi xe xk xv xs xc xq).k 1), .int .u8 (bt (Rc.mk xi xe xk xv xs xc xq).k 2), .int .u8 (bt (Rc.mk xi xe xk xv xs xc xq).k 3), .int .u8 (bt (Rc.mk xi xe xk xv xs xc xq).k 4), .int .u8 (bt (Rc.mk xi xe xk xv xs xc xq).k 5), .int .u8 (bt (Rc.mk xi xe xk xv xs xc xq).k 6), .int .u8 (bt (Rc.mk xi xe xk xv xs xc xq).k 7), .int .i64 (Rc.mk xi xe xk xv xs xc xq).v, .string (Rc.mk xi xe xk xv xs xc xq).s, .int .i64 (Rc.mk xi xe xk xv xs xc xq).c, .int .i64 (Rc.mk xi xe xk xv xs xc xq).q] rfl rfl _ _ hX0 infoRc rfl (by simp [Value.oneCell']) ?_)
        exact ⟨⟨k + 1, by omega, by go_num, hb2, HAn⟩, by simp [intOf]; omega⟩
      case true =>
        have HAn := HH.out rfl
        have HAh : Hid (A = _) := HAn
        clear HS HH HAn
        go_wp2_with (first | refine wpList_load_mid rfl 64 _ rfl bb (o + k * 14) rfl _ _ hrk' Tryd.underlying64 rfl infoRc ?_ | refine wpList_store_row rfl 64 _ _ rfl wr.heap.size #[.int .i64 (Rc.mk xi xe xk xv xs xc xq).ix, .int .i64 (Rc.mk xi xe xk xv xs xc xq).ep, .int .u8 (bt (Rc.mk xi xe xk xv xs xc xq).k 0), .int .u8 (bt (Rc.mk xi xe xk xv xs xc xq).k 1), .int .u8 (bt (Rc.mk xi xe xk xv xs xc xq).k 2), .int .u8 (bt (Rc.mk xi xe xk xv xs xc xq).k 3), .int .u8 (bt (Rc.mk xi xe xk xv xs xc xq).k 4), .int .u8 (bt (Rc.mk xi xe xk xv xs xc xq).k 5), .int .u8 (bt (Rc.mk xi xe xk xv xs xc xq).k 6), .int .u8 (bt (Rc.mk xi xe xk xv xs xc xq).k 7), .int .i64 (Rc.mk xi xe xk xv xs xc xq).v, .string (Rc.mk xi xe xk xv xs xc xq).s, .int .i64 (Rc.mk xi xe xk xv xs xc xq).c, .int .i64 (Rc.mk xi xe xk xv xs xc xq).q] rfl rfl _ _ hX0 infoRc rfl (by simp [Value.oneCell']) ?_)
        generalize ((wr.alloc (.cells #[.int .i64 0, .int .i64 0, .int .u8 0, .int .u8 0, .int .u8 0, .int .u8 0, .int .u8 0, .int .u8 0, .int .u8 0, .int .u8 0, .int .i64 0, .string ⟨#[]⟩, .int .i64 0, .int .i64 0] 64)).setRow wr.heap.size #[.int .i64 (Rc.mk xi xe xk xv xs xc xq).ix, .int .i64 (Rc.mk xi xe xk xv xs xc xq).ep, .int .u8 (bt (Rc.mk xi xe xk xv xs xc xq).k 0), .int .u8 (bt (Rc.mk xi xe xk xv xs xc xq).k 1), .int .u8 (bt (Rc.mk xi xe xk xv xs xc xq).k 2), .int .u8 (bt (Rc.mk xi xe xk xv xs xc xq).k 3), .int .u8 (bt (Rc.mk xi xe xk xv xs xc xq).k 4), .int .u8 (bt (Rc.mk xi xe xk xv xs xc xq).k 5), .int .u8 (bt (Rc.mk xi xe xk xv xs xc xq).k 6), .int .u8 (bt (Rc.mk xi xe xk xv xs xc xq).k 7), .int .i64 (Rc.mk xi xe xk xv xs xc xq).v, .string (Rc.mk xi xe xk xv xs xc xq).s, .int .i64 (Rc.mk xi xe xk xv xs xc xq).c, .int .i64 (Rc.mk xi xe xk xv xs xc xq).q]) = wx at *
        have k0 := cell_regrown y0
        have k1 := cell_regrown y10
        have k2 := cell_regrown x5
        refine wp_region_quiet_below (by kernel_rfl) (by kernel_rfl) ?_
        repeat (with_reducible refine wpQuiet_step (fun K hK => ?_); go_simp; first | (with_reducible refine hK _ ?_; clear hK K) | (rw [if_neg (by decide)]; with_reducible refine hK _ ?_; clear hK K))
        with_reducible refine wpQuiet_nil ?_
        intro _ hw'
        obtain ⟨⟨dq, osq⟩, hw''⟩ := hw'
        subst hw''
        have HBE := HB.trans ((hb2.trans ((below_regrown wx dq osq).mono hb2.size)).mono HB.size)
        clear k0 k1 k2 y0 y10 x5
        go_wp2_with fail
        rw [HAh.out]
        exact bodyPost_ret (v := .tuple #[.int .i64 xv, .bool (decide (xi ≤ com))]) (by simp [results, Tryd.results21, go_sem]) rfl ⟨rfl, HBE⟩
    · as_aux_lemma =>
      have hki : ¬ (k : Int) < (rn : Int) := by omega
      have HE := HA.out
      rw [pick1_end (by rw [hr0.len]; omega)] at HE
      have HEh : Hid (A = _) := HE
      clear HE HA
      clear hr0
      have HW1 : Below w0.heap.size w0 wr := hb
      have x3 := At.cell (hBk.below hb) 3
      simp only [List.getElem?_toArray, List.getElem?_cons_zero, List.getElem?_cons_succ] at x3
      clear hb
      go_wp2_with fail
      clear x3
      have HD : Hid (A = pick1 (D.drop 0) (fun d => d.c == kc && d.q == kq) (fun d => (d.v, true)) (0, false)) := HEh.out
      clear HEh
      go_loopw [39] (fun i wr => ∃ (k : Nat), k ≤ dn ∧ i = .int .i64 k ∧ Below w0.heap.size w0 wr ∧ Hid (A = pick1 (D.drop k) (fun d => d.c == kc && d.q == kq) (fun d => (d.v, true)) (0, false))) (fun i _ => dn - (intOf i).toNat)
      case atStart => exact ⟨0, Nat.zero_le _, rfl, HW1, HD⟩
      case round =>
        clear HD HW1
        obtain ⟨k, hk, rfl, hb, HA⟩ := hrel
        by_cases hkn : k < dn
        · as_aux_lemma =>
          have hki : (k : Int) < (dn : Int) := by omega
          obtain ⟨bb, o, rfl, _⟩ := hd0.at (by omega)
          have hkl : k < D.length := by rw [hd0.len]; exact hkn
          have hrk := hd0.rangeB hb hkn
          have HS : Hid ((fun d : Dn => d.c == kc && d.q == kq)  (D.getD k donS.z) = false → A = pick1 (D.drop (k + 1)) (fun d => d.c == kc && d.q == kq) (fun d => (d.v, true)) (0, false)) := fun e => by rw [HA.out, pick1_skip hkl e]
          have HH : Hid ((fun d : Dn => d.c == kc && d.q == kq) (D.getD k donS.z) = true → A = (fun d : Dn => (d.v, true)) (D.getD k donS.z)) := fun e => by rw [HA.out, pick1_hit hkl e]
          clear HA hkl
          have hrk' : wr.rangeAt bb (o + k * 3) [.int .i64 (D.getD k donS.z).c, .int .i64 (D.getD k donS.z).q, .int .i64 (D.getD k donS.z).v] := hrk
          clear hrk
          generalize D.getD k donS.z = x at *
          obtain ⟨xc, xq, xv⟩ := x
          dsimp only at HS HH hrk'
          have hX0 := At.new 82 wr #[.int .i64 0, .int .i64 0, .int .i64 0]
          have hXr := hX0.row #[.int .i64 (Dn.mk xc xq xv).c, .int .i64 (Dn.mk xc xq xv).q, .int .i64 (Dn.mk xc xq xv).v]
          have hba : Below wr.heap.size wr ((wr.alloc (.cells #[.int .i64 0, .int .i64 0, .int .i64 0] 82)).setRow wr.heap.size #[.int .i64 (Dn.mk xc xq xv).c, .int .i64 (Dn.mk xc xq xv).q, .int .i64 (Dn.mk xc xq xv).v]) := (below_alloc' wr (.cells #[.int .i64 0, .int .i64 0, .int .i64 0] 82)).trans (below_setRow _ _ _ (Nat.le_refl _))
          have hb2 := hb.trans (hba.mono hb.size)
          have y0 := At.cell hXr 0
          have y1 := At.cell hXr 1
          have y2 := At.cell hXr 2
          simp only [List.getElem?_toArray, List.getElem?_cons_zero, List.getElem?_cons_succ] at y0 y1 y2
          have q0 := At.cell (hQ.below hb2) 0
          have q1 := At.cell (hQ.below hb2) 1
          simp only [List.getElem?_toArray, List.getElem?_cons_zero, List.getElem?_cons_succ] at q0 q1
          dsimp only at *
          clear hba hb hXr
          by_cases hc1 : (xc == kc) = true
          · by_cases hc2 : (xq == kq) = true
            · have ht : (xc == kc && xq == kq) = true := by rw [hc1, hc2]; rfl
              skip
              have HAn := HH.out ht
              have HAh : Hid (A = _) := HAn
              clear HS HH HAn
              go_wp2_with (first | refine wpList_load_mid rfl 82 _ rfl bb (o + k * 3) rfl _ _ hrk' Tryd.underlying82 rfl infoDn ?_ | refine wpList_store_row rfl 82 _ _ rfl wr.heap.size #[.int .i64 (Dn.mk xc xq xv).c, .int .i64 (Dn.mk xc xq xv).q, .int .i64 (Dn.mk xc xq xv).v] rfl rfl _ _ hX0 infoDn rfl (by simp [Value.oneCell']) ?_)
              have HBE := HB.trans (hb2.mono HB.size)
              rw [HAh.out]
              exact bodyPost_ret (v := .tuple #[.int .i64 xv, .bool true]) (by simp [results, Tryd.results21, go_sem]) rfl ⟨rfl, HBE⟩
            · replace hc2 : (xq == kq) = false := by simpa using hc2
              have ht : (xc == kc && xq == kq) = false := by rw [hc1, hc2]; rfl
              have HAn : Hid (A = pick1 (D.drop (k + 1)) (fun d => d.c == kc && d.q == kq) (fun d => (d.v, true)) (0, false)) := HS.out ht
              clear HS HH
              go_wp2_with (first | refine wpList_load_mid rfl 82 _ rfl bb (o + k * 3) rfl _ _ hrk' Tryd.underlying82 rfl infoDn ?_ | refine wpList_store_row rfl 82 _ _ rfl wr.heap.size #[.int .i64 (Dn.mk xc xq xv).c, .int .i64 (Dn.mk xc xq xv).q, .int .i64 (Dn.mk xc xq xv).v] rfl rfl _ _ hX0 infoDn rfl (by simp [Value.oneCell']) ?_)
              exact ⟨⟨k + 1, by omega, by go_num, hb2, HAn⟩, by simp [intOf]; omega⟩
          · replace hc1 : (xc == kc) = false := by simpa using hc1
            have ht : (xc == kc && xq == kq) = false := by rw [hc1]; rfl
            have HAn : Hid (A = pick1 (D.drop (k + 1)) (fun d => d.c == kc && d.q == kq) (fun d => (d.v, true)) (0, false)) := HS.out ht
            clear HS HH
            go_wp2_with (first | refine wpList_load_mid rfl 82 _ rfl bb (o + k * 3) rfl _ _ hrk' Tryd.underlying82 rfl infoDn ?_ | refine wpList_store_row rfl 82 _ _ rfl wr.heap.size #[.int .i64 (Dn.mk xc xq xv).c, .int .i64 (Dn.mk xc xq xv).q, .int .i64 (Dn.mk xc xq xv).v] rfl rfl _ _ hX0 infoDn rfl (by simp [Value.oneCell']) ?_)
            exact ⟨⟨k + 1, by omega, by go_num, hb2, HAn⟩, by simp [intOf]; omega⟩
        · as_aux_lemma =>
          have hki : ¬ (k : Int) < (dn : Int) := by omega
          have HE := HA.out
          rw [pick1_end (by rw [hd0.len]; omega)] at HE
          have HEh : Hid (A = _) := HE
          clear HE HA
          go_wp2_with fail
          have HBE := HB.trans (hb.mono HB.size)
          rw [HEh.out]
          exact bodyPost_ret (v := .tuple #[.int .i64 0, .bool false]) (by simp [results, Tryd.results21, go_sem]) rfl ⟨rfl, HBE⟩

end Go.Proofs.YtnbgdkdnlfomeaaDoor.M

namespace Go.Proofs.YtnbgdkdnlfomeaaDoor.M
open Go.ChangeShapes Go.WideShapes Go.ChangeAt Go.RowKit Go.ChangeMaps Go.MapKept Go.Maps Go.Shelf Go.Proofs
set_option linter.unusedSimpArgs false

theorem cel0b : (#[.int .u8 (bt Ce.z0.k 0), .int .u8 (bt Ce.z0.k 1), .int .u8 (bt Ce.z0.k 2), .int .u8 (bt Ce.z0.k 3), .int .u8 (bt Ce.z0.k 4), .int .u8 (bt Ce.z0.k 5), .int .u8 (bt Ce.z0.k 6), .int .u8 (bt Ce.z0.k 7), .int .i64 Ce.z0.v, .string Ce.z0.s] : Array Value) = #[.int .u8 0, .int .u8 0, .int .u8 0, .int .u8 0, .int .u8 0, .int .u8 0, .int .u8 0, .int .u8 0, .int .i64 0, .string ⟨#[]⟩] := by simp [Ce.z0, bt]

theorem pick1_look : ∀ (C : List Ce) (q : Nat), pick1 C (fun c => c.k == q) (fun c => c) Ce.z0 = (lookC C q).getD .z0
  | [], _ => rfl
  | c :: C, q => by
    unfold lookC
    by_cases h : c.k = q
    · rw [if_pos h]
      unfold pick1
      rw [List.find?_cons_of_pos (by simpa using h)]
      rfl
    · rw [if_neg h, ← pick1_look C q]
      unfold pick1
      rw [List.find?_cons_of_neg (by simpa using h)]

set_option maxRecDepth 20000 in
set_option maxHeartbeats 2000000 in
theorem rCell_any {w : World} {ix ep : Int} {cp : Option Addr} {cn cc : Nat} {C : List Ce} {dp : Option Addr} {dn dc : Nat} (hC : RdG celS w cp cn cc C) (hcn : cn ≤ 1000) (hck : ∀ c ∈ C, c.k < 18446744073709551616) (q : Nat) (hq : q < 18446744073709551616) :
    Calls Tryd.prog 27 #[.agg #[.int .i64 ix, .int .i64 ep, .slice cp cn cc, .slice dp dn dc], .agg #[.int .u8 (bt (q) 0), .int .u8 (bt (q) 1), .int .u8 (bt (q) 2), .int .u8 (bt (q) 3), .int .u8 (bt (q) 4), .int .u8 (bt (q) 5), .int .u8 (bt (q) 6), .int .u8 (bt (q) 7)]] w fun e w' => e = .returned (.agg #[.int .u8 (bt ((lookC C q).getD .z0).k 0), .int .u8 (bt ((lookC C q).getD .z0).k 1), .int .u8 (bt ((lookC C q).getD .z0).k 2), .int .u8 (bt ((lookC C q).getD .z0).k 3), .int .u8 (bt ((lookC C q).getD .z0).k 4), .int .u8 (bt ((lookC C q).getD .z0).k 5), .int .u8 (bt ((lookC C q).getD .z0).k 6), .int .u8 (bt ((lookC C q).getD .z0).k 7), .int .i64 ((lookC C q).getD .z0).v, .string ((lookC C q).getD .z0).s]) ∧ Below w.heap.size w w' := by
  have h1 := below_alloc' w (.cells #[.int .i64 ix, .int .i64 ep, .slice cp cn cc, .slice dp dn dc] 25)
  have h2 := below_alloc' (w.alloc (.cells #[.int .i64 ix, .int .i64 ep, .slice cp cn cc, .slice dp dn dc] 25)) (.cells #[.int .u8 (bt (q) 0), .int .u8 (bt (q) 1), .int .u8 (bt (q) 2), .int .u8 (bt (q) 3), .int .u8 (bt (q) 4), .int .u8 (bt (q) 5), .int .u8 (bt (q) 6), .int .u8 (bt (q) 7)] 28)
  have h3 := below_alloc' ((w.alloc (.cells #[.int .i64 ix, .int .i64 ep, .slice cp cn cc, .slice dp dn dc] 25)).alloc (.cells #[.int .u8 (bt (q) 0), .int .u8 (bt (q) 1), .int .u8 (bt (q) 2), .int .u8 (bt (q) 3), .int .u8 (bt (q) 4), .int .u8 (bt (q) 5), .int .u8 (bt (q) 6), .int .u8 (bt (q) 7)] 28)) (.cells #[.int .u8 0, .int .u8 0, .int .u8 0, .int .u8 0, .int .u8 0, .int .u8 0, .int .u8 0, .int .u8 0, .int .i64 0, .string ⟨#[]⟩] 53)
  have s1 : (w.alloc (.cells #[.int .i64 ix, .int .i64 ep, .slice cp cn cc, .slice dp dn dc] 25)).heap.size = w.heap.size + 1 := by simp
  have s2 : ((w.alloc (.cells #[.int .i64 ix, .int .i64 ep, .slice cp cn cc, .slice dp dn dc] 25)).alloc (.cells #[.int .u8 (bt (q) 0), .int .u8 (bt (q) 1), .int .u8 (bt (q) 2), .int .u8 (bt (q) 3), .int .u8 (bt (q) 4), .int .u8 (bt (q) 5), .int .u8 (bt (q) 6), .int .u8 (bt (q) 7)] 28)).heap.size = w.heap.size + 1 + 1 := by simp
  have hTb : At 25 (((w.alloc (.cells #[.int .i64 ix, .int .i64 ep, .slice cp cn cc, .slice dp dn dc] 25)).alloc (.cells #[.int .u8 (bt (q) 0), .int .u8 (bt (q) 1), .int .u8 (bt (q) 2), .int .u8 (bt (q) 3), .int .u8 (bt (q) 4), .int .u8 (bt (q) 5), .int .u8 (bt (q) 6), .int .u8 (bt (q) 7)] 28)).alloc (.cells #[.int .u8 0, .int .u8 0, .int .u8 0, .int .u8 0, .int .u8 0, .int .u8 0, .int .u8 0, .int .u8 0, .int .i64 0, .string ⟨#[]⟩] 53)) w.heap.size #[.int .i64 ix, .int .i64 ep, .slice cp cn cc, .slice dp dn dc] := ((At.new _ w _).alloc _).alloc _
  have hKy : At 28 (((w.alloc (.cells #[.int .i64 ix, .int .i64 ep, .slice cp cn cc, .slice dp dn dc] 25)).alloc (.cells #[.int .u8 (bt (q) 0), .int .u8 (bt (q) 1), .int .u8 (bt (q) 2), .int .u8 (bt (q) 3), .int .u8 (bt (q) 4), .int .u8 (bt (q) 5), .int .u8 (bt (q) 6), .int .u8 (bt (q) 7)] 28)).alloc (.cells #[.int .u8 0, .int .u8 0, .int .u8 0, .int .u8 0, .int .u8 0, .int .u8 0, .int .u8 0, .int .u8 0, .int .i64 0, .string ⟨#[]⟩] 53)) (w.heap.size + 1) #[.int .u8 (bt (q) 0), .int .u8 (bt (q) 1), .int .u8 (bt (q) 2), .int .u8 (bt (q) 3), .int .u8 (bt (q) 4), .int .u8 (bt (q) 5), .int .u8 (bt (q) 6), .int .u8 (bt (q) 7)] := by rw [← s1]; exact (At.new _ _ _).alloc _
  have hBx : At 53 (((w.alloc (.cells #[.int .i64 ix, .int .i64 ep, .slice cp cn cc, .slice dp dn dc] 25)).alloc (.cells #[.int .u8 (bt (q) 0), .int .u8 (bt (q) 1), .int .u8 (bt (q) 2), .int .u8 (bt (q) 3), .int .u8 (bt (q) 4), .int .u8 (bt (q) 5), .int .u8 (bt (q) 6), .int .u8 (bt (q) 7)] 28)).alloc (.cells #[.int .u8 0, .int .u8 0, .int .u8 0, .int .u8 0, .int .u8 0, .int .u8 0, .int .u8 0, .int .u8 0, .int .i64 0, .string ⟨#[]⟩] 53)) (w.heap.size + 1 + 1) #[.int .u8 0, .int .u8 0, .int .u8 0, .int .u8 0, .int .u8 0, .int .u8 0, .int .u8 0, .int .u8 0, .int .i64 0, .string ⟨#[]⟩] := by rw [← s2]; exact At.new _ _ _
  have HB := (h1.trans (h2.mono h1.size)).trans (h3.mono (h1.trans (h2.mono h1.size)).size)
  have hC0 := hC.below HB
  have hA0 : pick1 (C.drop 0) (fun c => c.k == q) (fun c => c) Ce.z0 = (lookC C q).getD .z0 := pick1_look C q
  have HA : Hid ((lookC C q).getD .z0 = pick1 (C.drop 0) (fun c => c.k == q) (fun c => c) Ce.z0) := hA0.symm
  generalize (lookC C q).getD .z0 = A at *
  have x2 := At.cell hTb 2
  simp only [List.getElem?_toArray, List.getElem?_cons_zero, List.getElem?_cons_succ] at x2
  clear h1 h2 h3 s1 s2 hC hA0
  go_enter Tryd.func27, Tryd.ntmps27
  go_wp2_with fail
  generalize (((w.alloc (.cells #[.int .i64 ix, .int .i64 ep, .slice cp cn cc, .slice dp dn dc] 25)).alloc (.cells #[.int .u8 (bt (q) 0), .int .u8 (bt (q) 1), .int .u8 (bt (q) 2), .int .u8 (bt (q) 3), .int .u8 (bt (q) 4), .int .u8 (bt (q) 5), .int .u8 (bt (q) 6), .int .u8 (bt (q) 7)] 28)).alloc (.cells #[.int .u8 0, .int .u8 0, .int .u8 0, .int .u8 0, .int .u8 0, .int .u8 0, .int .u8 0, .int .u8 0, .int .i64 0, .string ⟨#[]⟩] 53)) = w0 at *
  have HW0 : Below w0.heap.size w0 w0 := Below.refl _ _
  clear x2
  go_loopw [10] (fun i wr => ∃ (k : Nat), k ≤ cn ∧ i = .int .i64 k ∧ Below w0.heap.size w0 wr ∧ Hid (A = pick1 (C.drop k) (fun c => c.k == q) (fun c => c) Ce.z0)) (fun i _ => cn - (intOf i).toNat)
  case atStart => exact ⟨0, Nat.zero_le _, rfl, HW0, HA⟩
  case round =>
    clear HA HW0
    obtain ⟨k, hk, rfl, hb, HA⟩ := hrel
    by_cases hkn : k < cn
    · as_aux_lemma =>
      have hki : (k : Int) < (cn : Int) := by omega
      obtain ⟨bb, o, rfl, _⟩ := hC0.at (by omega)
      have hkl : k < C.length := by rw [hC0.len]; exact hkn
      have hrk := hC0.rangeB hb hkn
      have HS : Hid ((fun c : Ce => c.k == q)  (C.getD k celS.z) = false → A = pick1 (C.drop (k + 1)) (fun c => c.k == q) (fun c => c) Ce.z0) := fun e => by rw [HA.out, pick1_skip hkl e]
      have HH : Hid ((fun c : Ce => c.k == q) (C.getD k celS.z) = true → A = (fun c : Ce => c) (C.getD k celS.z)) := fun e => by rw [HA.out, pick1_hit hkl e]
      clear HA hkl
      have hrk' : wr.rangeAt bb (o + k * 10) [.int .u8 (bt (C.getD k celS.z).k 0), .int .u8 (bt (C.getD k celS.z).k 1), .int .u8 (bt (C.getD k celS.z).k 2), .int .u8 (bt (C.getD k celS.z).k 3), .int .u8 (bt (C.getD k celS.z).k 4), .int .u8 (bt (C.getD k celS.z).k 5), .int .u8 (bt (C.getD k celS.z).k 6), .int .u8 (bt (C.getD k celS.z).k 7), .int .i64 (C.getD k celS.z).v, .string (C.getD k celS.z).s] := hrk
      clear hrk
      have hck0 : (C.getD k celS.z).k < 18446744073709551616 := by rw [List.getD_eq_getElem?_getD, List.getElem?_eq_getElem (by rw [hC0.len]; exact hkn)]; exact hck _ (List.getElem_mem _)
      generalize C.getD k celS.z = x at *
      obtain ⟨xk, xv, xs⟩ := x
      dsimp only at HS HH hrk' hck0
      have hX0 := At.new 53 wr #[.int .u8 0, .int .u8 0, .int .u8 0, .int .u8 0, .int .u8 0, .int .u8 0, .int .u8 0, .int .u8 0, .int .i64 0, .string ⟨#[]⟩]
      have hXr := hX0.row #[.int .u8 (bt (Ce.mk xk xv xs).k 0), .int .u8 (bt (Ce.mk xk xv xs).k 1), .int .u8 (bt (Ce.mk xk xv xs).k 2), .int .u8 (bt (Ce.mk xk xv xs).k 3), .int .u8 (bt (Ce.mk xk xv xs).k 4), .int .u8 (bt (Ce.mk xk xv xs).k 5), .int .u8 (bt (Ce.mk xk xv xs).k 6), .int .u8 (bt (Ce.mk xk xv xs).k 7), .int .i64 (Ce.mk xk xv xs).v, .string (Ce.mk xk xv xs).s]
      have hba : Below wr.heap.size wr ((wr.alloc (.cells #[.int .u8 0, .int .u8 0, .int .u8 0, .int .u8 0, .int .u8 0, .int .u8 0, .int .u8 0, .int .u8 0, .int .i64 0, .string ⟨#[]⟩] 53)).setRow wr.heap.size #[.int .u8 (bt (Ce.mk xk xv xs).k 0), .int .u8 (bt (Ce.mk xk xv xs).k 1), .int .u8 (bt (Ce.mk xk xv xs).k 2), .int .u8 (bt (Ce.mk xk xv xs).k 3), .int .u8 (bt (Ce.mk xk xv xs).k 4), .int .u8 (bt (Ce.mk xk xv xs).k 5), .int .u8 (bt (Ce.mk xk xv xs).k 6), .int .u8 (bt (Ce.mk xk xv xs).k 7), .int .i64 (Ce.mk xk xv xs).v, .string (Ce.mk xk xv xs).s]) := (below_alloc' wr (.cells #[.int .u8 0, .int .u8 0, .int .u8 0, .int .u8 0, .int .u8 0, .int .u8 0, .int .u8 0, .int .u8 0, .int .i64 0, .string ⟨#[]⟩] 53)).trans (below_setRow _ _ _ (Nat.le_refl _))
      have hb2 := hb.trans (hba.mono hb.size)
      have y0 := At.cell hXr 0
      have y1 := At.cell hXr 1
      have y2 := At.cell hXr 2
      have y3 := At.cell hXr 3
      have y4 := At.cell hXr 4
      have y5 := At.cell hXr 5
      have y6 := At.cell hXr 6
      have y7 := At.cell hXr 7
      simp only [List.getElem?_toArray, List.getElem?_cons_zero, List.getElem?_cons_succ] at y0 y1 y2 y3 y4 y5 y6 y7
      have q0 := At.cell (hKy.below hb2) 0
      have q1 := At.cell (hKy.below hb2) 1
      have q2 := At.cell (hKy.below hb2) 2
      have q3 := At.cell (hKy.below hb2) 3
      have q4 := At.cell (hKy.below hb2) 4
      have q5 := At.cell (hKy.below hb2) 5
      have q6 := At.cell (hKy.below hb2) 6
      have q7 := At.cell (hKy.below hb2) 7
      simp only [List.getElem?_toArray, List.getElem?_cons_zero, List.getElem?_cons_succ] at q0 q1 q2 q3 q4 q5 q6 q7
      have hE : ∀ W, (binOp .eql 28 (.agg #[.int .u8 (bt (xk) 0), .int .u8 (bt (xk) 1), .int .u8 (bt (xk) 2), .int .u8 (bt (xk) 3), .int .u8 (bt (xk) 4), .int .u8 (bt (xk) 5), .int .u8 (bt (xk) 6), .int .u8 (bt (xk) 7)]) (.agg #[.int .u8 (bt (q) 0), .int .u8 (bt (q) 1), .int .u8 (bt (q) 2), .int .u8 (bt (q) 3), .int .u8 (bt (q) 4), .int .u8 (bt (q) 5), .int .u8 (bt (q) 6), .int .u8 (bt (q) 7)])).run Tryd.prog W = .ok (.bool (xk == q)) W := fun W => by rw [eql_keys xk q hck0 hq W]; congr 2
      dsimp only at *
      clear hba hb
      generalize (xk == q) = t at *
      cases t
      case false =>
        have HAn : Hid (A = pick1 (C.drop (k + 1)) (fun c => c.k == q) (fun c => c) Ce.z0) := HS.out rfl
        clear HS HH
        go_wp2_with (first | refine wpList_load_mid rfl 53 _ rfl bb (o + k * 10) rfl _ _ hrk' Tryd.underlying53 rfl infoCe ?_ | refine wpList_store_row rfl 53 _ _ rfl wr.heap.size #[.int .u8 (bt (Ce.mk xk xv xs).k 0), .int .u8 (bt (Ce.mk xk xv xs).k 1), .int .u8 (bt (Ce.mk xk xv xs).k 2), .int .u8 (bt (Ce.mk xk xv xs).k 3), .int .u8 (bt (Ce.mk xk xv xs).k 4), .int .u8 (bt (Ce.mk xk xv xs).k 5), .int .u8 (bt (Ce.mk xk xv xs).k 6), .int .u8 (bt (Ce.mk xk xv xs).k 7), .int .i64 (Ce.mk xk xv xs).v, .string (Ce.mk xk xv xs).s] rfl rfl _ _ hX0 infoCe rfl (by simp [Value.oneCell']) ?_)
        exact ⟨⟨k + 1, by omega, by go_num, hb2, HAn⟩, by simp [intOf]; omega⟩
      case true =>
        have HAn := HH.out rfl
        have HAh : Hid (A = _) := HAn
        clear HS HH HAn
        go_wp2_with (first | refine wpList_load_mid rfl 53 _ rfl bb (o + k * 10) rfl _ _ hrk' Tryd.underlying53 rfl infoCe ?_ | refine wpList_store_row rfl 53 _ _ rfl wr.heap.size #[.int .u8 (bt (Ce.mk xk xv xs).k 0), .int .u8 (bt (Ce.mk xk xv xs).k 1), .int .u8 (bt (Ce.mk xk xv xs).k 2), .int .u8 (bt (Ce.mk xk xv xs).k 3), .int .u8 (bt (Ce.mk xk xv xs).k 4), .int .u8 (bt (Ce.mk xk xv xs).k 5), .int .u8 (bt (Ce.mk xk xv xs).k 6), .int .u8 (bt (Ce.mk xk xv xs).k 7), .int .i64 (Ce.mk xk xv xs).v, .string (Ce.mk xk xv xs).s] rfl rfl _ _ hX0 infoCe rfl (by simp [Value.oneCell']) ?_ | refine wpList_load_row rfl 53 _ rfl wr.heap.size rfl _ _ _ _ hXr Tryd.underlying53 rfl infoCe ?_ | refine wpList_store_row rfl 53 _ _ rfl (w.heap.size + 1 + 1) #[.int .u8 (bt (Ce.mk xk xv xs).k 0), .int .u8 (bt (Ce.mk xk xv xs).k 1), .int .u8 (bt (Ce.mk xk xv xs).k 2), .int .u8 (bt (Ce.mk xk xv xs).k 3), .int .u8 (bt (Ce.mk xk xv xs).k 4), .int .u8 (bt (Ce.mk xk xv xs).k 5), .int .u8 (bt (Ce.mk xk xv xs).k 6), .int .u8 (bt (Ce.mk xk xv xs).k 7), .int .i64 (Ce.mk xk xv xs).v, .string (Ce.mk xk xv xs).s] rfl rfl _ _ (hBx.below hb2) infoCe rfl (by simp [Value.oneCell']) ?_)
        generalize ((wr.alloc (.cells #[.int .u8 0, .int .u8 0, .int .u8 0, .int .u8 0, .int .u8 0, .int .u8 0, .int .u8 0, .int .u8 0, .int .i64 0, .string ⟨#[]⟩] 53)).setRow wr.heap.size #[.int .u8 (bt (Ce.mk xk xv xs).k 0), .int .u8 (bt (Ce.mk xk xv xs).k 1), .int .u8 (bt (Ce.mk xk xv xs).k 2), .int .u8 (bt (Ce.mk xk xv xs).k 3), .int .u8 (bt (Ce.mk xk xv xs).k 4), .int .u8 (bt (Ce.mk xk xv xs).k 5), .int .u8 (bt (Ce.mk xk xv xs).k 6), .int .u8 (bt (Ce.mk xk xv xs).k 7), .int .i64 (Ce.mk xk xv xs).v, .string (Ce.mk xk xv xs).s]) = wx at *
        have HBX := hBx.below hb2
        have hBE0 := HB.trans (hb2.mono HB.size)
        have HBE := hBE0.trans (below_setRow (B := w.heap.size) wx (w.heap.size + 1 + 1) #[.int .u8 (bt (Ce.mk xk xv xs).k 0), .int .u8 (bt (Ce.mk xk xv xs).k 1), .int .u8 (bt (Ce.mk xk xv xs).k 2), .int .u8 (bt (Ce.mk xk xv xs).k 3), .int .u8 (bt (Ce.mk xk xv xs).k 4), .int .u8 (bt (Ce.mk xk xv xs).k 5), .int .u8 (bt (Ce.mk xk xv xs).k 6), .int .u8 (bt (Ce.mk xk xv xs).k 7), .int .i64 (Ce.mk xk xv xs).v, .string (Ce.mk xk xv xs).s] (by omega))
        rw [HAh.out]
        exact bodyPost_ret (v := .agg #[.int .u8 (bt (Ce.mk xk xv xs).k 0), .int .u8 (bt (Ce.mk xk xv xs).k 1), .int .u8 (bt (Ce.mk xk xv xs).k 2), .int .u8 (bt (Ce.mk xk xv xs).k 3), .int .u8 (bt (Ce.mk xk xv xs).k 4), .int .u8 (bt (Ce.mk xk xv xs).k 5), .int .u8 (bt (Ce.mk xk xv xs).k 6), .int .u8 (bt (Ce.mk xk xv xs).k 7), .int .i64 (Ce.mk xk xv xs).v, .string (Ce.mk xk xv xs).s]) (results_cell_row rfl _ _ (w.heap.size + 1 + 1) _ _ _ _ rfl (HBX.row _) Tryd.underlying53 rfl infoCe) rfl ⟨rfl, HBE⟩
    · as_aux_lemma =>
      have hki : ¬ (k : Int) < (cn : Int) := by omega
      have HE := HA.out
      rw [pick1_end (by rw [hC0.len]; omega)] at HE
      have HEh : Hid (A = _) := HE
      clear HE HA
      have HBX := hBx.below hb
      have hBE0 := HB.trans (hb.mono HB.size)
      have HBE := hBE0.trans (below_setRow (B := w.heap.size) wr (w.heap.size + 1 + 1) #[.int .u8 0, .int .u8 0, .int .u8 0, .int .u8 0, .int .u8 0, .int .u8 0, .int .u8 0, .int .u8 0, .int .i64 0, .string ⟨#[]⟩] (by omega))
      go_wp2_with (refine wpList_store_row rfl 53 _ _ rfl (w.heap.size + 1 + 1) #[.int .u8 0, .int .u8 0, .int .u8 0, .int .u8 0, .int .u8 0, .int .u8 0, .int .u8 0, .int .u8 0, .int .i64 0, .string ⟨#[]⟩] rfl rfl _ _ HBX infoCe rfl (by simp [Value.oneCell']) ?_)
      rw [HEh.out, cel0b]
      exact bodyPost_ret (v := .agg #[.int .u8 0, .int .u8 0, .int .u8 0, .int .u8 0, .int .u8 0, .int .u8 0, .int .u8 0, .int .u8 0, .int .i64 0, .string ⟨#[]⟩]) (results_cell_row rfl _ _ (w.heap.size + 1 + 1) _ _ _ _ rfl (HBX.row _) Tryd.underlying53 rfl infoCe) rfl ⟨rfl, HBE⟩

end Go.Proofs.YtnbgdkdnlfomeaaDoor.M

namespace Go.Proofs.YtnbgdkdnlfomeaaDoor.M
open Go.ChangeShapes Go.WideShapes Go.ChangeAt Go.RowKit Go.ChangeMaps Go.MapKept Go.Maps Go.Shelf Go.Proofs
set_option linter.unusedSimpArgs false

def rOf (C : List Ce) (R : List Rc) (q : Nat) (ver : Int) : ByteArray × Bool := pick1 R (fun x => x.k == q && x.v == ver) (fun x => (x.s, true)) (((lookC C q).getD .z0).s, ((lookC C q).getD .z0).v == ver)

set_option maxRecDepth 20000 in
set_option maxHeartbeats 2000000 in
theorem rOf_any {w : World} {g : Nat} {ix ep : Int} {cp : Option Addr} {cn cc : Nat} {C : List Ce} {dp : Option Addr} {dn dc : Nat} {D : List Dn} {rp : Option Addr} {rn rc : Nat} {R : List Rc} {com : Int} (h : RX w g ix ep cp cn cc C dp dn dc D rp rn rc R com) (hck : ∀ c ∈ C, c.k < 18446744073709551616) (hrk0 : ∀ x ∈ R, x.k < 18446744073709551616) (q : Nat) (hq : q < 18446744073709551616) (ver : Int) :
    Calls Tryd.prog 24 #[.pointer (some ⟨g, 0, none⟩), .agg #[.int .u8 (bt (q) 0), .int .u8 (bt (q) 1), .int .u8 (bt (q) 2), .int .u8 (bt (q) 3), .int .u8 (bt (q) 4), .int .u8 (bt (q) 5), .int .u8 (bt (q) 6), .int .u8 (bt (q) 7)], .int .i64 ver] w fun e w' => e = .returned (.tuple #[.string (rOf C R q ver).1, .bool (rOf C R q ver).2]) ∧ Below w.heap.size w w' := by
  have HB := below_alloc' w (.cells #[.int .u8 (bt (q) 0), .int .u8 (bt (q) 1), .int .u8 (bt (q) 2), .int .u8 (bt (q) 3), .int .u8 (bt (q) 4), .int .u8 (bt (q) 5), .int .u8 (bt (q) 6), .int .u8 (bt (q) 7)] 28)
  have hKy := At.new 28 w #[.int .u8 (bt (q) 0), .int .u8 (bt (q) 1), .int .u8 (bt (q) 2), .int .u8 (bt (q) 3), .int .u8 (bt (q) 4), .int .u8 (bt (q) 5), .int .u8 (bt (q) 6), .int .u8 (bt (q) 7)]
  have hX := h.below HB
  have HA : Hid (rOf C R q ver = pick1 (R.drop 0) (fun x => x.k == q && x.v == ver) (fun x => (x.s, true)) (((lookC C q).getD .z0).s, ((lookC C q).getD .z0).v == ver)) := rfl
  have hCl := fun W (hW : Below (w.alloc (.cells #[.int .u8 (bt (q) 0), .int .u8 (bt (q) 1), .int .u8 (bt (q) 2), .int .u8 (bt (q) 3), .int .u8 (bt (q) 4), .int .u8 (bt (q) 5), .int .u8 (bt (q) 6), .int .u8 (bt (q) 7)] 28)).heap.size (w.alloc (.cells #[.int .u8 (bt (q) 0), .int .u8 (bt (q) 1), .int .u8 (bt (q) 2), .int .u8 (bt (q) 3), .int .u8 (bt (q) 4), .int .u8 (bt (q) 5), .int .u8 (bt (q) 6), .int .u8 (bt (q) 7)] 28)) W) => rCell_any (ix := ix) (ep := ep) (dp := dp) (dn := dn) (dc := dc) (hX.c.below hW) hX.nc hck q hq
  generalize rOf C R q ver = A at *
  generalize ((lookC C q).getD .z0) = cel at *
  obtain ⟨ck, cv, cs⟩ := cel
  dsimp only at HA hCl
  have hr0 := hX.r
  have hnr := hX.nr
  have x4 := At.cell hX.blk 4
  simp only [List.getElem?_toArray, List.getElem?_cons_zero, List.getElem?_cons_succ] at x4
  have hBk := hX.blk
  clear h hX
  go_enter Tryd.func24, Tryd.ntmps24
  go_wp2_with fail
  generalize (w.alloc (.cells #[.int .u8 (bt (q) 0), .int .u8 (bt (q) 1), .int .u8 (bt (q) 2), .int .u8 (bt (q) 3), .int .u8 (bt (q) 4), .int .u8 (bt (q) 5), .int .u8 (bt (q) 6), .int .u8 (bt (q) 7)] 28)) = w0 at *
  have HW0 : Below w0.heap.size w0 w0 := Below.refl _ _
  clear x4
  go_loopw [16] (fun i wr => ∃ (k : Nat), k ≤ rn ∧ i = .int .i64 k ∧ Below w0.heap.size w0 wr ∧ Hid (A = pick1 (R.drop k) (fun x => x.k == q && x.v == ver) (fun x => (x.s, true)) (cs, cv == ver))) (fun i _ => rn - (intOf i).toNat)
  case atStart => exact ⟨0, Nat.zero_le _, rfl, HW0, HA⟩
  case round =>
    clear HA HW0
    obtain ⟨k, hk, rfl, hb, HA⟩ := hrel
    by_cases hkn : k < rn
    · as_aux_lemma =>
      have hki : (k : Int) < (rn : Int) := by omega
      obtain ⟨bb, o, rfl, _⟩ := hr0.at (by omega)
      have hkl : k < R.length := by rw [hr0.len]; exact hkn
      have hrk := hr0.rangeB hb hkn
      have HS : Hid ((fun x : Rc => x.k == q && x.v == ver)  (R.getD k recS.z) = false → A = pick1 (R.drop (k + 1)) (fun x => x.k == q && x.v == ver) (fun x => (x.s, true)) (cs, cv == ver)) := fun e => by rw [HA.out, pick1_skip hkl e]
      have HH : Hid ((fun x : Rc => x.k == q && x.v == ver) (R.getD k recS.z) = true → A = (fun x : Rc => (x.s, true)) (R.getD k recS.z)) := fun e => by rw [HA.out, pick1_hit hkl e]
      clear HA hkl
      have hrk' : wr.rangeAt bb (o + k * 14) [.int .i64 (R.getD k recS.z).ix, .int .i64 (R.getD k recS.z).ep, .int .u8 (bt (R.getD k recS.z).k 0), .int .u8 (bt (R.getD k recS.z).k 1), .int .u8 (bt (R.getD k recS.z).k 2), .int .u8 (bt (R.getD k recS.z).k 3), .int .u8 (bt (R.getD k recS.z).k 4), .int .u8 (bt (R.getD k recS.z).k 5), .int .u8 (bt (R.getD k recS.z).k 6), .int .u8 (bt (R.getD k recS.z).k 7), .int .i64 (R.getD k recS.z).v, .string (R.getD k recS.z).s, .int .i64 (R.getD k recS.z).c, .int .i64 (R.getD k recS.z).q] := hrk
      clear hrk
      have hck0 : (R.getD k recS.z).k < 18446744073709551616 := by rw [List.getD_eq_getElem?_getD, List.getElem?_eq_getElem (by rw [hr0.len]; exact hkn)]; exact hrk0 _ (List.getElem_mem _)
      generalize R.getD k recS.z = x at *
      obtain ⟨xi, xe, xk, xv, xs, xc, xq⟩ := x
      dsimp only at HS HH hrk' hck0
      have hX0 := At.new 64 wr #[.int .i64 0, .int .i64 0, .int .u8 0, .int .u8 0, .int .u8 0, .int .u8 0, .int .u8 0, .int .u8 0, .int .u8 0, .int .u8 0, .int .i64 0, .string ⟨#[]⟩, .int .i64 0, .int .i64 0]
      have hXr := hX0.row #[.int .i64 (Rc.mk xi xe xk xv xs xc xq).ix, .int .i64 (Rc.mk xi xe xk xv xs xc xq).ep, .int .u8 (bt (Rc.mk xi xe xk xv xs xc xq).k 0), .int .u8 (bt (Rc.mk xi xe xk xv xs xc xq).k 1), .int .u8 (bt (Rc.mk xi xe xk xv xs xc xq).k 2), .int .u8 (bt (Rc.mk xi xe xk xv xs xc xq).k 3), .int .u8 (bt (Rc.mk xi xe xk xv xs xc xq).k 4), .int .u8 (bt (Rc.mk xi xe xk xv xs xc xq).k 5), .int .u8 (bt (Rc.mk xi xe xk xv xs xc xq).k 6), .int .u8 (bt (Rc.mk xi xe xk xv xs xc xq).k 7), .int .i64 (Rc.mk xi xe xk xv xs xc xq).v, .string (Rc.mk xi xe xk xv xs xc xq).s, .int .i64 (Rc.mk xi xe xk xv xs xc xq).c, .int .i64 (Rc.mk xi xe xk xv xs xc xq).q]
      have hba : Below wr.heap.size wr ((wr.alloc (.cells #[.int .i64 0, .int .i64 0, .int .u8 0, .int .u8 0, .int .u8 0, .int .u8 0, .int .u8 0, .int .u8 0, .int .u8 0, .int .u8 0, .int .i64 0, .string ⟨#[]⟩, .int .i64 0, .int .i64 0] 64)).setRow wr.heap.size #[.int .i64 (Rc.mk xi xe xk xv xs xc xq).ix, .int .i64 (Rc.mk xi xe xk xv xs xc xq).ep, .int .u8 (bt (Rc.mk xi xe xk xv xs xc xq).k 0), .int .u8 (bt (Rc.mk xi xe xk xv xs xc xq).k 1), .int .u8 (bt (Rc.mk xi xe xk xv xs xc xq).k 2), .int .u8 (bt (Rc.mk xi xe xk xv xs xc xq).k 3), .int .u8 (bt (Rc.mk xi xe xk xv xs xc xq).k 4), .int .u8 (bt (Rc.mk xi xe xk xv xs xc xq).k 5), .int .u8 (bt (Rc.mk xi xe xk xv xs xc xq).k 6), .int .u8 (bt (Rc.mk xi xe xk xv xs xc xq).k 7), .int .i64 (Rc.mk xi xe xk xv xs xc xq).v, .string (Rc.mk xi xe xk xv xs xc xq).s, .int .i64 (Rc.mk xi xe xk xv xs xc xq).c, .int .i64 (Rc.mk xi xe xk xv xs xc xq).q]) := (below_alloc' wr (.cells #[.int .i64 0, .int .i64 0, .int .u8 0, .int .u8 0, .int .u8 0, .int .u8 0, .int .u8 0, .int .u8 0, .int .u8 0, .int .u8 0, .int .i64 0, .string ⟨#[]⟩, .int .i64 0, .int .i64 0] 64)).trans (below_setRow _ _ _ (Nat.le_refl _))
      have hb2 := hb.trans (hba.mono hb.size)
      have y2 := At.cell hXr 2
      have y3 := At.cell hXr 3
      have y4 := At.cell hXr 4
      have y5 := At.cell hXr 5
      have y6 := At.cell hXr 6
      have y7 := At.cell hXr 7
      have y8 := At.cell hXr 8
      have y9 := At.cell hXr 9
      have y10 := At.cell hXr 10
      have y11 := At.cell hXr 11
      simp only [List.getElem?_toArray, List.getElem?_cons_zero, List.getElem?_cons_succ] at y2 y3 y4 y5 y6 y7 y8 y9 y10 y11
      have q0 := At.cell (hKy.below hb2) 0
      have q1 := At.cell (hKy.below hb2) 1
      have q2 := At.cell (hKy.below hb2) 2
      have q3 := At.cell (hKy.below hb2) 3
      have q4 := At.cell (hKy.below hb2) 4
      have q5 := At.cell (hKy.below hb2) 5
      have q6 := At.cell (hKy.below hb2) 6
      have q7 := At.cell (hKy.below hb2) 7
      simp only [List.getElem?_toArray, List.getElem?_cons_zero, List.getElem?_cons_succ] at q0 q1 q2 q3 q4 q5 q6 q7
      have hE : ∀ W, (binOp .eql 28 (.agg #[.int .u8 (bt (xk) 0), .int .u8 (bt (xk) 1), .int .u8 (bt (xk) 2), .int .u8 (bt (xk) 3), .int .u8 (bt (xk) 4), .int .u8 (bt (xk) 5), .int .u8 (bt (xk) 6), .int .u8 (bt (xk) 7)]) (.agg #[.int .u8 (bt (q) 0), .int .u8 (bt (q) 1), .int .u8 (bt (q) 2), .int .u8 (bt (q) 3), .int .u8 (bt (q) 4), .int .u8 (bt (q) 5), .int .u8 (bt (q) 6), .int .u8 (bt (q) 7)])).run Tryd.prog W = .ok (.bool (xk == q)) W := fun W => by rw [eql_keys xk q hck0 hq W]; congr 2
      dsimp only at *
      clear hba hb hXr
      by_cases hc1 : (xk == q) = true
      · by_cases hc2 : (xv == ver) = true
        · have ht : (xk == q && xv == ver) = true := by rw [hc1, hc2]; rfl
          skip
          have HAn := HH.out ht
          have HAh : Hid (A = _) := HAn
          clear HS HH HAn
          go_wp2_with (first | refine wpList_load_mid rfl 64 _ rfl bb (o + k * 14) rfl _ _ hrk' Tryd.underlying64 rfl infoRc ?_ | refine wpList_store_row rfl 64 _ _ rfl wr.heap.size #[.int .i64 (Rc.mk xi xe xk xv xs xc xq).ix, .int .i64 (Rc.mk xi xe xk xv xs xc xq).ep, .int .u8 (bt (Rc.mk xi xe xk xv xs xc xq).k 0), .int .u8 (bt (Rc.mk xi xe xk xv xs xc xq).k 1), .int .u8 (bt (Rc.mk xi xe xk xv xs xc xq).k 2), .int .u8 (bt (Rc.mk xi xe xk xv xs xc xq).k 3), .int .u8 (bt (Rc.mk xi xe xk xv xs xc xq).k 4), .int .u8 (bt (Rc.mk xi xe xk xv xs xc xq).k 5), .int .u8 (bt (Rc.mk xi xe xk xv xs xc xq).k 6), .int .u8 (bt (Rc.mk xi xe xk xv xs xc xq).k 7), .int .i64 (Rc.mk xi xe xk xv xs xc xq).v, .string (Rc.mk xi xe xk xv xs xc xq).s, .int .i64 (Rc.mk xi xe xk xv xs xc xq).c, .int .i64 (Rc.mk xi xe xk xv xs xc xq).q] rfl rfl _ _ hX0 infoRc rfl (by simp [Value.oneCell']) ?_)
          have HBE := HB.trans (hb2.mono HB.size)
          rw [HAh.out]
          exact bodyPost_ret (v := .tuple #[.string xs, .bool true]) (by simp [results, Tryd.results24, go_sem]) rfl ⟨rfl, HBE⟩
        · replace hc2 : (xv == ver) = false := by simpa using hc2
          have ht : (xk == q && xv == ver) = false := by rw [hc1, hc2]; rfl
          have HAn : Hid (A = pick1 (R.drop (k + 1)) (fun x => x.k == q && x.v == ver) (fun x => (x.s, true)) (cs, cv == ver)) := HS.out ht
          clear HS HH
          go_wp2_with (first | refine wpList_load_mid rfl 64 _ rfl bb (o + k * 14) rfl _ _ hrk' Tryd.underlying64 rfl infoRc ?_ | refine wpList_store_row rfl 64 _ _ rfl wr.heap.size #[.int .i64 (Rc.mk xi xe xk xv xs xc xq).ix, .int .i64 (Rc.mk xi xe xk xv xs xc xq).ep, .int .u8 (bt (Rc.mk xi xe xk xv xs xc xq).k 0), .int .u8 (bt (Rc.mk xi xe xk xv xs xc xq).k 1), .int .u8 (bt (Rc.mk xi xe xk xv xs xc xq).k 2), .int .u8 (bt (Rc.mk xi xe xk xv xs xc xq).k 3), .int .u8 (bt (Rc.mk xi xe xk xv xs xc xq).k 4), .int .u8 (bt (Rc.mk xi xe xk xv xs xc xq).k 5), .int .u8 (bt (Rc.mk xi xe xk xv xs xc xq).k 6), .int .u8 (bt (Rc.mk xi xe xk xv xs xc xq).k 7), .int .i64 (Rc.mk xi xe xk xv xs xc xq).v, .string (Rc.mk xi xe xk xv xs xc xq).s, .int .i64 (Rc.mk xi xe xk xv xs xc xq).c, .int .i64 (Rc.mk xi xe xk xv xs xc xq).q] rfl rfl _ _ hX0 infoRc rfl (by simp [Value.oneCell']) ?_)
          exact ⟨⟨k + 1, by omega, by go_num, hb2, HAn⟩, by simp [intOf]; omega⟩
      · replace hc1 : (xk == q) = false := by simpa using hc1
        have ht : (xk == q && xv == ver) = false := by rw [hc1]; rfl
        have HAn : Hid (A = pick1 (R.drop (k + 1)) (fun x => x.k == q && x.v == ver) (fun x => (x.s, true)) (cs, cv == ver)) := HS.out ht
        clear HS HH
        go_wp2_with (first | refine wpList_load_mid rfl 64 _ rfl bb (o + k * 14) rfl _ _ hrk' Tryd.underlying64 rfl infoRc ?_ | refine wpList_store_row rfl 64 _ _ rfl wr.heap.size #[.int .i64 (Rc.mk xi xe xk xv xs xc xq).ix, .int .i64 (Rc.mk xi xe xk xv xs xc xq).ep, .int .u8 (bt (Rc.mk xi xe xk xv xs xc xq).k 0), .int .u8 (bt (Rc.mk xi xe xk xv xs xc xq).k 1), .int .u8 (bt (Rc.mk xi xe xk xv xs xc xq).k 2), .int .u8 (bt (Rc.mk xi xe xk xv xs xc xq).k 3), .int .u8 (bt (Rc.mk xi xe xk xv xs xc xq).k 4), .int .u8 (bt (Rc.mk xi xe xk xv xs xc xq).k 5), .int .u8 (bt (Rc.mk xi xe xk xv xs xc xq).k 6), .int .u8 (bt (Rc.mk xi xe xk xv xs xc xq).k 7), .int .i64 (Rc.mk xi xe xk xv xs xc xq).v, .string (Rc.mk xi xe xk xv xs xc xq).s, .int .i64 (Rc.mk xi xe xk xv xs xc xq).c, .int .i64 (Rc.mk xi xe xk xv xs xc xq).q] rfl rfl _ _ hX0 infoRc rfl (by simp [Value.oneCell']) ?_)
        exact ⟨⟨k + 1, by omega, by go_num, hb2, HAn⟩, by simp [intOf]; omega⟩
    · as_aux_lemma =>
      have hki : ¬ (k : Int) < (rn : Int) := by omega
      have HE := HA.out
      rw [pick1_end (by rw [hr0.len]; omega)] at HE
      have HEh : Hid (A = _) := HE
      clear HE HA
      have hS0 : Bl wr wr.drew := (Below.refl _ _).drew
      go_wp2_with fail
      refine wp_region_det [0, 1, 2, 3, 4, 5] (Bl wr) (Bl wr) (by kernel_rfl) hS0 ?_
      refine wpDet_take ?vW0 (Bl.stays wr) (fun _ h => h) (i := 0) rfl (by kernel_rfl) (by kernel_rfl) (by kernel_rfl) (by kernel_rfl) (fun _ _ _ h => h) (Gives.value (by rfl) ?yW0) ?rW0
      case yW0 => (intro w' hSw; (try dsimp only at hSw); go_simp; try with_reducible rfl)
      (try simp only [Act.put, List.getElem_toArray, List.getElem_cons_zero, List.getElem_cons_succ, List.setIfInBounds_toArray, List.set_cons_zero, List.set_cons_succ])
      refine wpDet_take ?vW1 (Bl.stays wr) (fun _ h => h) (i := 1) rfl (by kernel_rfl) (by kernel_rfl) (by kernel_rfl) (by kernel_rfl) (fun _ _ _ h => h) (Gives.value (by rfl) ?yW1) ?rW1
      case yW1 => (intro w' hSw; (try dsimp only at hSw); go_simp; try with_reducible rfl)
      (try simp only [Act.put, List.getElem_toArray, List.getElem_cons_zero, List.getElem_cons_succ, List.setIfInBounds_toArray, List.set_cons_zero, List.set_cons_succ])
      refine wpDet_take ?vW2 (Bl.stays wr) (fun _ h => h) (i := 2) rfl (by kernel_rfl) (by kernel_rfl) (by kernel_rfl) (by kernel_rfl) (fun _ _ _ h => h) (Gives.value (by rfl) ?yW2) ?rW2
      case yW2 => (intro w' hSw; (try dsimp only at hSw); go_simp; try with_reducible rfl)
      (try simp only [Act.put, List.getElem_toArray, List.getElem_cons_zero, List.getElem_cons_succ, List.setIfInBounds_toArray, List.set_cons_zero, List.set_cons_succ])
      refine wpDet_take ?vW3 (Bl.stays wr) (fun _ h => h) (i := 3) rfl (by kernel_rfl) (by kernel_rfl) (by kernel_rfl) (by kernel_rfl) (fun _ _ _ h => h) (Gives.value (by rfl) ?yW3) ?rW3
      case yW3 => (intro w' hSw; have xb := At.below (At.below hBk hb) (Bl.out hSw); have x0 := At.cell xb 0; have x1 := At.cell xb 1; have x2 := At.cell xb 2; have x3 := At.cell xb 3; simp only [List.getElem?_toArray, List.getElem?_cons_zero, List.getElem?_cons_succ] at x0 x1 x2 x3; (try dsimp only at hSw); go_simp; try with_reducible rfl)
      (try simp only [Act.put, List.getElem_toArray, List.getElem_cons_zero, List.getElem_cons_succ, List.setIfInBounds_toArray, List.set_cons_zero, List.set_cons_succ])
      refine wpDet_take ?vW4 (Bl.stays wr) (fun _ h => h) (i := 4) rfl (by kernel_rfl) (by kernel_rfl) (by kernel_rfl) (by kernel_rfl) (fun _ _ _ h => h) (Gives.value (by rfl) ?yW4) ?rW4
      case yW4 => (intro w' hSw; have kk := At.below (At.below hKy hb) (Bl.out hSw); have q0 := At.cell kk 0; have q1 := At.cell kk 1; have q2 := At.cell kk 2; have q3 := At.cell kk 3; have q4 := At.cell kk 4; have q5 := At.cell kk 5; have q6 := At.cell kk 6; have q7 := At.cell kk 7; simp only [List.getElem?_toArray, List.getElem?_cons_zero, List.getElem?_cons_succ] at q0 q1 q2 q3 q4 q5 q6 q7; (try dsimp only at hSw); go_simp; try with_reducible rfl)
      (try simp only [Act.put, List.getElem_toArray, List.getElem_cons_zero, List.getElem_cons_succ, List.setIfInBounds_toArray, List.set_cons_zero, List.set_cons_succ])
      refine wpDet_take (.agg #[.int .u8 (bt (Ce.mk ck cv cs).k 0), .int .u8 (bt (Ce.mk ck cv cs).k 1), .int .u8 (bt (Ce.mk ck cv cs).k 2), .int .u8 (bt (Ce.mk ck cv cs).k 3), .int .u8 (bt (Ce.mk ck cv cs).k 4), .int .u8 (bt (Ce.mk ck cv cs).k 5), .int .u8 (bt (Ce.mk ck cv cs).k 6), .int .u8 (bt (Ce.mk ck cv cs).k 7), .int .i64 (Ce.mk ck cv cs).v, .string (Ce.mk ck cv cs).s]) (Bl.stays wr) (fun _ h => h) (i := 5) rfl (by kernel_rfl) (by kernel_rfl) (by kernel_rfl) (by kernel_rfl) (fun _ _ _ h => h) (Gives.call 27 #[.agg #[.int .i64 ix, .int .i64 ep, .slice cp cn cc, .slice dp dn dc], .agg #[.int .u8 (bt (q) 0), .int .u8 (bt (q) 1), .int .u8 (bt (q) 2), .int .u8 (bt (q) 3), .int .u8 (bt (q) 4), .int .u8 (bt (q) 5), .int .u8 (bt (q) 6), .int .u8 (bt (q) 7)]] (by rfl) (fun _ => by first | (go_simp; done) | (go_simp; rfl)) (fun W hW => (hCl _ (hb.trans ((Bl.out hW).mono hb.size))))) ?_
      (try simp only [Act.put, List.getElem_toArray, List.getElem_cons_zero, List.getElem_cons_succ, List.setIfInBounds_toArray, List.set_cons_zero, List.set_cons_succ])
      refine wpDet_ready (rs := [6]) (by kernel_rfl) (by simp) (AllDet.cons rfl (fun V hV K hK => ?_) AllDet.nil)
      rw [if_pos (by rfl)]
      refine wp_value (.pointer (some ⟨V.heap.size, 0, none⟩)) (V.alloc (.cells #[.int .u8 0, .int .u8 0, .int .u8 0, .int .u8 0, .int .u8 0, .int .u8 0, .int .u8 0, .int .u8 0, .int .i64 0, .string ⟨#[]⟩] 53)) (by first | (go_simp; done) | (go_simp; rfl)) ?_
      have hz7 : NBG wr 53 V.heap.size #[.int .u8 0, .int .u8 0, .int .u8 0, .int .u8 0, .int .u8 0, .int .u8 0, .int .u8 0, .int .u8 0, .int .i64 0, .string ⟨#[]⟩] (V.alloc (.cells #[.int .u8 0, .int .u8 0, .int .u8 0, .int .u8 0, .int .u8 0, .int .u8 0, .int .u8 0, .int .u8 0, .int .i64 0, .string ⟨#[]⟩] 53)) := ⟨Bl.stays wr V _ hV (below_alloc' _ _), At.new _ _ _, (Bl.out hV).size⟩
      refine hK.out (NBG wr 53 V.heap.size #[.int .u8 0, .int .u8 0, .int .u8 0, .int .u8 0, .int .u8 0, .int .u8 0, .int .u8 0, .int .u8 0, .int .i64 0, .string ⟨#[]⟩]) _ _ (NBG.stays _ _ _ _) (fun _ _ h => h.bl) hz7 ?_
      clear hK hz7
      obtain ⟨gr, hgr⟩ : ∃ gr, gr = V.heap.size := ⟨_, rfl⟩
      rw [← hgr]
      clear hV hgr
      (try simp only [Act.put, List.getElem_toArray, List.getElem_cons_zero, List.getElem_cons_succ, List.setIfInBounds_toArray, List.set_cons_zero, List.set_cons_succ])
      refine wpDet_ready (rs := [7]) (by kernel_rfl) (by simp) (AllDet.cons rfl (fun V hV K hK => ?_) AllDet.nil)
      rw [if_pos (by rfl)]
      refine wp_store_row 53 _ _ rfl gr #[.int .u8 (bt (Ce.mk ck cv cs).k 0), .int .u8 (bt (Ce.mk ck cv cs).k 1), .int .u8 (bt (Ce.mk ck cv cs).k 2), .int .u8 (bt (Ce.mk ck cv cs).k 3), .int .u8 (bt (Ce.mk ck cv cs).k 4), .int .u8 (bt (Ce.mk ck cv cs).k 5), .int .u8 (bt (Ce.mk ck cv cs).k 6), .int .u8 (bt (Ce.mk ck cv cs).k 7), .int .i64 (Ce.mk ck cv cs).v, .string (Ce.mk ck cv cs).s] rfl rfl _ _ hV.ce infoCe rfl (by simp [Value.oneCell']) ?_
      have hz9 : NBG wr 53 gr #[.int .u8 (bt (Ce.mk ck cv cs).k 0), .int .u8 (bt (Ce.mk ck cv cs).k 1), .int .u8 (bt (Ce.mk ck cv cs).k 2), .int .u8 (bt (Ce.mk ck cv cs).k 3), .int .u8 (bt (Ce.mk ck cv cs).k 4), .int .u8 (bt (Ce.mk ck cv cs).k 5), .int .u8 (bt (Ce.mk ck cv cs).k 6), .int .u8 (bt (Ce.mk ck cv cs).k 7), .int .i64 (Ce.mk ck cv cs).v, .string (Ce.mk ck cv cs).s] (V.setRow gr #[.int .u8 (bt (Ce.mk ck cv cs).k 0), .int .u8 (bt (Ce.mk ck cv cs).k 1), .int .u8 (bt (Ce.mk ck cv cs).k 2), .int .u8 (bt (Ce.mk ck cv cs).k 3), .int .u8 (bt (Ce.mk ck cv cs).k 4), .int .u8 (bt (Ce.mk ck cv cs).k 5), .int .u8 (bt (Ce.mk ck cv cs).k 6), .int .u8 (bt (Ce.mk ck cv cs).k 7), .int .i64 (Ce.mk ck cv cs).v, .string (Ce.mk ck cv cs).s]) := ⟨(Bl.out hV.bl).trans (below_setRow V gr _ hV.new), hV.ce.row _, hV.new⟩
      refine hK.out (NBG wr 53 gr #[.int .u8 (bt (Ce.mk ck cv cs).k 0), .int .u8 (bt (Ce.mk ck cv cs).k 1), .int .u8 (bt (Ce.mk ck cv cs).k 2), .int .u8 (bt (Ce.mk ck cv cs).k 3), .int .u8 (bt (Ce.mk ck cv cs).k 4), .int .u8 (bt (Ce.mk ck cv cs).k 5), .int .u8 (bt (Ce.mk ck cv cs).k 6), .int .u8 (bt (Ce.mk ck cv cs).k 7), .int .i64 (Ce.mk ck cv cs).v, .string (Ce.mk ck cv cs).s]) _ _ (NBG.stays _ _ _ _) (fun _ _ h => h.bl) hz9 ?_
      clear hK K hV hz9
      (try simp only [Act.put, List.getElem_toArray, List.getElem_cons_zero, List.getElem_cons_succ, List.setIfInBounds_toArray, List.set_cons_zero, List.set_cons_succ])
      refine wpDet_done (by kernel_rfl) (fun W9 hV => ?_) _
      have hbA := hb.trans ((Bl.out hV.bl).mono hb.size)
      have y8 := At.cell hV.ce 8
      have y9 := At.cell hV.ce 9
      simp only [List.getElem?_toArray, List.getElem?_cons_zero, List.getElem?_cons_succ] at y8 y9
      clear hV hb
      go_wp2_with fail
      have k0 := cell_regrown y8
      have k1 := cell_regrown y9
      clear y8 y9
      refine wp_region_quiet_below (by kernel_rfl) (by kernel_rfl) ?_
      repeat (with_reducible refine wpQuiet_step (fun K hK => ?_); go_simp; first | (with_reducible refine hK _ ?_; clear hK K) | (rw [if_neg (by decide)]; with_reducible refine hK _ ?_; clear hK K))
      with_reducible refine wpQuiet_nil ?_
      intro _ hw'
      obtain ⟨⟨dq, osq⟩, hw''⟩ := hw'
      subst hw''
      have HBB := hbA.trans ((below_regrown W9 dq osq).mono hbA.size)
      have HBE := HB.trans (HBB.mono HB.size)
      clear k0 k1
      go_wp2_with fail
      rw [HEh.out]
      exact bodyPost_ret (v := .tuple #[.string cs, .bool (cv == ver)]) (by simp [results, Tryd.results24, go_sem]) rfl ⟨rfl, HBE⟩

end Go.Proofs.YtnbgdkdnlfomeaaDoor.M

namespace Go.Proofs.YtnbgdkdnlfomeaaDoor.M
open Go.ChangeShapes Go.WideShapes Go.ChangeAt Go.RowKit Go.ChangeMaps Go.MapKept Go.Maps Go.Shelf Go.Proofs
set_option linter.unusedSimpArgs false

def Sh.ofS (s : Sh) (q : Nat) (ver : Int) : ByteArray × Bool := if ((lookC s.low.cs q).getD .z0).v = ver then (((lookC s.low.cs q).getD .z0).s, true) else pick1 s.tail (fun x => x.k == q && x.v == ver) (fun x => (x.s, true)) (⟨#[]⟩, false)

set_option maxRecDepth 20000 in
set_option maxHeartbeats 2000000 in
theorem of_any {w : World} {g b : Nat} {p : Option Addr} {n c : Nat} {s : Sh} (h : ShB w g b p n c s) (q : Nat) (hq : q < 18446744073709551616) (ver : Int) :
    Calls Tryd.prog 23 #[.pointer (some ⟨g, 0, none⟩), .agg #[.int .u8 (bt (q) 0), .int .u8 (bt (q) 1), .int .u8 (bt (q) 2), .int .u8 (bt (q) 3), .int .u8 (bt (q) 4), .int .u8 (bt (q) 5), .int .u8 (bt (q) 6), .int .u8 (bt (q) 7)], .int .i64 ver] w fun e w' => e = .returned (.tuple #[.string (s.ofS q ver).1, .bool (s.ofS q ver).2]) ∧ Below w.heap.size w w' := by
  have HB := below_alloc' w (.cells #[.int .u8 (bt (q) 0), .int .u8 (bt (q) 1), .int .u8 (bt (q) 2), .int .u8 (bt (q) 3), .int .u8 (bt (q) 4), .int .u8 (bt (q) 5), .int .u8 (bt (q) 6), .int .u8 (bt (q) 7)] 28)
  have hKy := At.new 28 w #[.int .u8 (bt (q) 0), .int .u8 (bt (q) 1), .int .u8 (bt (q) 2), .int .u8 (bt (q) 3), .int .u8 (bt (q) 4), .int .u8 (bt (q) 5), .int .u8 (bt (q) 6), .int .u8 (bt (q) 7)]
  have hSh := h.below HB
  have hm := hSh.made
  have hLk := fun W (hW : Below (w.alloc (.cells #[.int .u8 (bt (q) 0), .int .u8 (bt (q) 1), .int .u8 (bt (q) 2), .int .u8 (bt (q) 3), .int .u8 (bt (q) 4), .int .u8 (bt (q) 5), .int .u8 (bt (q) 6), .int .u8 (bt (q) 7)] 28)).heap.size (w.alloc (.cells #[.int .u8 (bt (q) 0), .int .u8 (bt (q) 1), .int .u8 (bt (q) 2), .int .u8 (bt (q) 3), .int .u8 (bt (q) 4), .int .u8 (bt (q) 5), .int .u8 (bt (q) 6), .int .u8 (bt (q) 7)] 28)) W) => (hSh.mp.below hW).look hq
  have HA : Hid (s.ofS q ver = if ((lookC s.low.cs q).getD .z0).v = ver then (((lookC s.low.cs q).getD .z0).s, true) else pick1 (s.tail.drop 0) (fun x => x.k == q && x.v == ver) (fun x => (x.s, true)) (⟨#[]⟩, false)) := rfl
  have hr0' := hSh.tl.rd
  have hok := hSh.inv.ok
  have hfew := hSh.inv.few
  have hln := hSh.len
  unfold celV keyV at hLk
  generalize s.ofS q ver = A at *
  generalize ((lookC s.low.cs q).getD .z0) = cel at *
  obtain ⟨ck, cv, cs⟩ := cel
  dsimp only at HA hLk
  clear h
  go_enter Tryd.func23, Tryd.ntmps23
  go_wp2_with fail
  generalize (w.alloc (.cells #[.int .u8 (bt (q) 0), .int .u8 (bt (q) 1), .int .u8 (bt (q) 2), .int .u8 (bt (q) 3), .int .u8 (bt (q) 4), .int .u8 (bt (q) 5), .int .u8 (bt (q) 6), .int .u8 (bt (q) 7)] 28)) = w1 at *
  refine hm.mono ?_
  rintro e w2 ⟨rfl, rfl⟩
  clear hm
  go_wp2_with fail
  have hS0 : Bl w2 w2.drew := (Below.refl _ _).drew
  refine wp_region_det [0, 1, 2, 3, 4, 5, 6] (Bl w2) (Bl w2) (by kernel_rfl) hS0 ?_
  refine wpDet_take ?vW0 (Bl.stays w2) (fun _ h => h) (i := 0) rfl (by kernel_rfl) (by kernel_rfl) (by kernel_rfl) (by kernel_rfl) (fun _ _ _ h => h) (Gives.value (by rfl) ?yW0) ?rW0
  case yW0 => (intro w' hSw; (try dsimp only at hSw); go_simp; try with_reducible rfl)
  (try simp only [Act.put, List.getElem_toArray, List.getElem_cons_zero, List.getElem_cons_succ, List.setIfInBounds_toArray, List.set_cons_zero, List.set_cons_succ])
  refine wpDet_take ?vW1 (Bl.stays w2) (fun _ h => h) (i := 1) rfl (by kernel_rfl) (by kernel_rfl) (by kernel_rfl) (by kernel_rfl) (fun _ _ _ h => h) (Gives.value (by rfl) ?yW1) ?rW1
  case yW1 => (intro w' hSw; (try dsimp only at hSw); go_simp; try with_reducible rfl)
  (try simp only [Act.put, List.getElem_toArray, List.getElem_cons_zero, List.getElem_cons_succ, List.setIfInBounds_toArray, List.set_cons_zero, List.set_cons_succ])
  refine wpDet_take ?vW2 (Bl.stays w2) (fun _ h => h) (i := 2) rfl (by kernel_rfl) (by kernel_rfl) (by kernel_rfl) (by kernel_rfl) (fun _ _ _ h => h) (Gives.value (by rfl) ?yW2) ?rW2
  case yW2 => (intro w' hSw; (try dsimp only at hSw); go_simp; try with_reducible rfl)
  (try simp only [Act.put, List.getElem_toArray, List.getElem_cons_zero, List.getElem_cons_succ, List.setIfInBounds_toArray, List.set_cons_zero, List.set_cons_succ])
  refine wpDet_take ?vW3 (Bl.stays w2) (fun _ h => h) (i := 3) rfl (by kernel_rfl) (by kernel_rfl) (by kernel_rfl) (by kernel_rfl) (fun _ _ _ h => h) (Gives.value (by rfl) ?yW3) ?rW3
  case yW3 => (intro w' hSw; (try dsimp only at hSw); go_simp; try with_reducible rfl)
  (try simp only [Act.put, List.getElem_toArray, List.getElem_cons_zero, List.getElem_cons_succ, List.setIfInBounds_toArray, List.set_cons_zero, List.set_cons_succ])
  refine wpDet_take ?vW4 (Bl.stays w2) (fun _ h => h) (i := 4) rfl (by kernel_rfl) (by kernel_rfl) (by kernel_rfl) (by kernel_rfl) (fun _ _ _ h => h) (Gives.value (by rfl) ?yW4) ?rW4
  case yW4 => (intro w' hSw; obtain ⟨⟨zz0, zz1, zz2, zz3, zz4, zz5, zz6, zz7, zz8, zz9, zz10, zz11, zz12, zz13, zz14⟩, zz15, zz16⟩ := (hSh.below (Bl.out hSw)).cells; (try dsimp only at hSw); go_simp; try with_reducible rfl)
  (try simp only [Act.put, List.getElem_toArray, List.getElem_cons_zero, List.getElem_cons_succ, List.setIfInBounds_toArray, List.set_cons_zero, List.set_cons_succ])
  refine wpDet_take ?vW5 (Bl.stays w2) (fun _ h => h) (i := 5) rfl (by kernel_rfl) (by kernel_rfl) (by kernel_rfl) (by kernel_rfl) (fun _ _ _ h => h) (Gives.value (by rfl) ?yW5) ?rW5
  case yW5 => (intro w' hSw; have kk := At.below hKy (Bl.out hSw); have q0 := At.cell kk 0; have q1 := At.cell kk 1; have q2 := At.cell kk 2; have q3 := At.cell kk 3; have q4 := At.cell kk 4; have q5 := At.cell kk 5; have q6 := At.cell kk 6; have q7 := At.cell kk 7; simp only [List.getElem?_toArray, List.getElem?_cons_zero, List.getElem?_cons_succ] at q0 q1 q2 q3 q4 q5 q6 q7; (try dsimp only at hSw); go_simp; try with_reducible rfl)
  (try simp only [Act.put, List.getElem_toArray, List.getElem_cons_zero, List.getElem_cons_succ, List.setIfInBounds_toArray, List.set_cons_zero, List.set_cons_succ])
  refine wpDet_take (.agg #[.int .u8 (bt (Ce.mk ck cv cs).k 0), .int .u8 (bt (Ce.mk ck cv cs).k 1), .int .u8 (bt (Ce.mk ck cv cs).k 2), .int .u8 (bt (Ce.mk ck cv cs).k 3), .int .u8 (bt (Ce.mk ck cv cs).k 4), .int .u8 (bt (Ce.mk ck cv cs).k 5), .int .u8 (bt (Ce.mk ck cv cs).k 6), .int .u8 (bt (Ce.mk ck cv cs).k 7), .int .i64 (Ce.mk ck cv cs).v, .string (Ce.mk ck cv cs).s]) (Bl.stays w2) (fun _ h => h) (i := 6) rfl (by kernel_rfl) (by kernel_rfl) (by kernel_rfl) (by kernel_rfl) (fun _ _ _ h => h) (Gives.value (by rfl) ?yW6) ?rW6
  case yW6 => (intro w' hSw; have hlk := hLk w' (Bl.out hSw); (try dsimp only at hSw); go_simp; try with_reducible rfl)
  (try simp only [Act.put, List.getElem_toArray, List.getElem_cons_zero, List.getElem_cons_succ, List.setIfInBounds_toArray, List.set_cons_zero, List.set_cons_succ])
  refine wpDet_ready (rs := [7]) (by kernel_rfl) (by simp) (AllDet.cons rfl (fun V hV K hK => ?_) AllDet.nil)
  rw [if_pos (by rfl)]
  refine wp_value (.pointer (some ⟨V.heap.size, 0, none⟩)) (V.alloc (.cells #[.int .u8 0, .int .u8 0, .int .u8 0, .int .u8 0, .int .u8 0, .int .u8 0, .int .u8 0, .int .u8 0, .int .i64 0, .string ⟨#[]⟩] 53)) (by first | (go_simp; done) | (go_simp; rfl)) ?_
  have hz7 : NBG w2 53 V.heap.size #[.int .u8 0, .int .u8 0, .int .u8 0, .int .u8 0, .int .u8 0, .int .u8 0, .int .u8 0, .int .u8 0, .int .i64 0, .string ⟨#[]⟩] (V.alloc (.cells #[.int .u8 0, .int .u8 0, .int .u8 0, .int .u8 0, .int .u8 0, .int .u8 0, .int .u8 0, .int .u8 0, .int .i64 0, .string ⟨#[]⟩] 53)) := ⟨Bl.stays w2 V _ hV (below_alloc' _ _), At.new _ _ _, (Bl.out hV).size⟩
  refine hK.out (NBG w2 53 V.heap.size #[.int .u8 0, .int .u8 0, .int .u8 0, .int .u8 0, .int .u8 0, .int .u8 0, .int .u8 0, .int .u8 0, .int .i64 0, .string ⟨#[]⟩]) _ _ (NBG.stays _ _ _ _) (fun _ _ h => h.bl) hz7 ?_
  clear hK hz7
  obtain ⟨gr, hgr⟩ : ∃ gr, gr = V.heap.size := ⟨_, rfl⟩
  rw [← hgr]
  clear hV hgr
  (try simp only [Act.put, List.getElem_toArray, List.getElem_cons_zero, List.getElem_cons_succ, List.setIfInBounds_toArray, List.set_cons_zero, List.set_cons_succ])
  refine wpDet_ready (rs := [8]) (by kernel_rfl) (by simp) (AllDet.cons rfl (fun V hV K hK => ?_) AllDet.nil)
  rw [if_pos (by rfl)]
  refine wp_store_row 53 _ _ rfl gr #[.int .u8 (bt (Ce.mk ck cv cs).k 0), .int .u8 (bt (Ce.mk ck cv cs).k 1), .int .u8 (bt (Ce.mk ck cv cs).k 2), .int .u8 (bt (Ce.mk ck cv cs).k 3), .int .u8 (bt (Ce.mk ck cv cs).k 4), .int .u8 (bt (Ce.mk ck cv cs).k 5), .int .u8 (bt (Ce.mk ck cv cs).k 6), .int .u8 (bt (Ce.mk ck cv cs).k 7), .int .i64 (Ce.mk ck cv cs).v, .string (Ce.mk ck cv cs).s] rfl rfl _ _ hV.ce infoCe rfl (by simp [Value.oneCell']) ?_
  have hz9 : NBG w2 53 gr #[.int .u8 (bt (Ce.mk ck cv cs).k 0), .int .u8 (bt (Ce.mk ck cv cs).k 1), .int .u8 (bt (Ce.mk ck cv cs).k 2), .int .u8 (bt (Ce.mk ck cv cs).k 3), .int .u8 (bt (Ce.mk ck cv cs).k 4), .int .u8 (bt (Ce.mk ck cv cs).k 5), .int .u8 (bt (Ce.mk ck cv cs).k 6), .int .u8 (bt (Ce.mk ck cv cs).k 7), .int .i64 (Ce.mk ck cv cs).v, .string (Ce.mk ck cv cs).s] (V.setRow gr #[.int .u8 (bt (Ce.mk ck cv cs).k 0), .int .u8 (bt (Ce.mk ck cv cs).k 1), .int .u8 (bt (Ce.mk ck cv cs).k 2), .int .u8 (bt (Ce.mk ck cv cs).k 3), .int .u8 (bt (Ce.mk ck cv cs).k 4), .int .u8 (bt (Ce.mk ck cv cs).k 5), .int .u8 (bt (Ce.mk ck cv cs).k 6), .int .u8 (bt (Ce.mk ck cv cs).k 7), .int .i64 (Ce.mk ck cv cs).v, .string (Ce.mk ck cv cs).s]) := ⟨(Bl.out hV.bl).trans (below_setRow V gr _ hV.new), hV.ce.row _, hV.new⟩
  refine hK.out (NBG w2 53 gr #[.int .u8 (bt (Ce.mk ck cv cs).k 0), .int .u8 (bt (Ce.mk ck cv cs).k 1), .int .u8 (bt (Ce.mk ck cv cs).k 2), .int .u8 (bt (Ce.mk ck cv cs).k 3), .int .u8 (bt (Ce.mk ck cv cs).k 4), .int .u8 (bt (Ce.mk ck cv cs).k 5), .int .u8 (bt (Ce.mk ck cv cs).k 6), .int .u8 (bt (Ce.mk ck cv cs).k 7), .int .i64 (Ce.mk ck cv cs).v, .string (Ce.mk ck cv cs).s]) _ _ (NBG.stays _ _ _ _) (fun _ _ h => h.bl) hz9 ?_
  clear hK K hV hz9
  (try simp only [Act.put, List.getElem_toArray, List.getElem_cons_zero, List.getElem_cons_succ, List.setIfInBounds_toArray, List.set_cons_zero, List.set_cons_succ])
  refine wpDet_done (by kernel_rfl) (fun W9 hV => ?_) _
  have hbA := Bl.out hV.bl
  have y8 := At.cell hV.ce 8
  have y9 := At.cell hV.ce 9
  simp only [List.getElem?_toArray, List.getElem?_cons_zero, List.getElem?_cons_succ] at y8 y9
  replace HB := HB.trans (hbA.mono HB.size)
  replace hSh := hSh.below hbA
  replace hKy := hKy.below hbA
  have hr0 := hr0'.below hbA
  obtain ⟨_, zz15, _⟩ := hSh.cells
  clear hV hLk hbA hr0'
  by_cases hv : cv = ver
  · have hvb : (cv == ver) = true := by simpa using hv
    rw [if_pos hv] at HA
    clear hv zz15
    go_wp2_with fail
    have HBE := HB
    rw [HA.out]
    exact bodyPost_ret (v := .tuple #[.string cs, .bool true]) (by simp [results, Tryd.results23, go_sem]) rfl ⟨rfl, HBE⟩
  · have hvb : (cv == ver) = false := by simpa using hv
    rw [if_neg hv] at HA
    clear hv y9
    go_wp2_with fail
    have HW0 : Below W9.heap.size W9 W9 := Below.refl _ _
    clear zz15 y8 hvb hSh
    go_loopw [32] (fun i wr => ∃ (k : Nat), k ≤ n ∧ i = .int .i64 k ∧ Below W9.heap.size W9 wr ∧ Hid (A = pick1 (s.tail.drop k) (fun x => x.k == q && x.v == ver) (fun x => (x.s, true)) (⟨#[]⟩, false))) (fun i _ => n - (intOf i).toNat)
    case atStart => exact ⟨0, Nat.zero_le _, rfl, HW0, HA⟩
    case round =>
      clear HA HW0
      obtain ⟨k, hk, rfl, hb, HA⟩ := hrel
      by_cases hkn : k < n
      · as_aux_lemma =>
        have hki : (k : Int) < (n : Int) := by omega
        obtain ⟨bb, o, rfl, _⟩ := hr0.at (by omega)
        have hkl : k < s.tail.length := by rw [hr0.len]; exact hkn
        have hrk := hr0.rangeB hb hkn
        have HS : Hid ((fun x : Rc => x.k == q && x.v == ver)  (s.tail.getD k recS.z) = false → A = pick1 (s.tail.drop (k + 1)) (fun x => x.k == q && x.v == ver) (fun x => (x.s, true)) (⟨#[]⟩, false)) := fun e => by rw [HA.out, pick1_skip hkl e]
        have HH : Hid ((fun x : Rc => x.k == q && x.v == ver) (s.tail.getD k recS.z) = true → A = (fun x : Rc => (x.s, true)) (s.tail.getD k recS.z)) := fun e => by rw [HA.out, pick1_hit hkl e]
        clear HA hkl
        have hrk' : wr.rangeAt bb (o + k * 14) [.int .i64 (s.tail.getD k recS.z).ix, .int .i64 (s.tail.getD k recS.z).ep, .int .u8 (bt (s.tail.getD k recS.z).k 0), .int .u8 (bt (s.tail.getD k recS.z).k 1), .int .u8 (bt (s.tail.getD k recS.z).k 2), .int .u8 (bt (s.tail.getD k recS.z).k 3), .int .u8 (bt (s.tail.getD k recS.z).k 4), .int .u8 (bt (s.tail.getD k recS.z).k 5), .int .u8 (bt (s.tail.getD k recS.z).k 6), .int .u8 (bt (s.tail.getD k recS.z).k 7), .int .i64 (s.tail.getD k recS.z).v, .string (s.tail.getD k recS.z).s, .int .i64 (s.tail.getD k recS.z).c, .int .i64 (s.tail.getD k recS.z).q] := hrk
        clear hrk
        have hck0 : (s.tail.getD k recS.z).k < 18446744073709551616 := by rw [List.getD_eq_getElem?_getD, List.getElem?_eq_getElem (by rw [hr0.len]; exact hkn)]; exact (hok _ (List.getElem_mem _)).1
        generalize s.tail.getD k recS.z = x at *
        obtain ⟨xi, xe, xk, xv, xs, xc, xq⟩ := x
        dsimp only at HS HH hrk' hck0
        have hX0 := At.new 64 wr #[.int .i64 0, .int .i64 0, .int .u8 0, .int .u8 0, .int .u8 0, .int .u8 0, .int .u8 0, .int .u8 0, .int .u8 0, .int .u8 0, .int .i64 0, .string ⟨#[]⟩, .int .i64 0, .int .i64 0]
        have hXr := hX0.row #[.int .i64 (Rc.mk xi xe xk xv xs xc xq).ix, .int .i64 (Rc.mk xi xe xk xv xs xc xq).ep, .int .u8 (bt (Rc.mk xi xe xk xv xs xc xq).k 0), .int .u8 (bt (Rc.mk xi xe xk xv xs xc xq).k 1), .int .u8 (bt (Rc.mk xi xe xk xv xs xc xq).k 2), .int .u8 (bt (Rc.mk xi xe xk xv xs xc xq).k 3), .int .u8 (bt (Rc.mk xi xe xk xv xs xc xq).k 4), .int .u8 (bt (Rc.mk xi xe xk xv xs xc xq).k 5), .int .u8 (bt (Rc.mk xi xe xk xv xs xc xq).k 6), .int .u8 (bt (Rc.mk xi xe xk xv xs xc xq).k 7), .int .i64 (Rc.mk xi xe xk xv xs xc xq).v, .string (Rc.mk xi xe xk xv xs xc xq).s, .int .i64 (Rc.mk xi xe xk xv xs xc xq).c, .int .i64 (Rc.mk xi xe xk xv xs xc xq).q]
        have hba : Below wr.heap.size wr ((wr.alloc (.cells #[.int .i64 0, .int .i64 0, .int .u8 0, .int .u8 0, .int .u8 0, .int .u8 0, .int .u8 0, .int .u8 0, .int .u8 0, .int .u8 0, .int .i64 0, .string ⟨#[]⟩, .int .i64 0, .int .i64 0] 64)).setRow wr.heap.size #[.int .i64 (Rc.mk xi xe xk xv xs xc xq).ix, .int .i64 (Rc.mk xi xe xk xv xs xc xq).ep, .int .u8 (bt (Rc.mk xi xe xk xv xs xc xq).k 0), .int .u8 (bt (Rc.mk xi xe xk xv xs xc xq).k 1), .int .u8 (bt (Rc.mk xi xe xk xv xs xc xq).k 2), .int .u8 (bt (Rc.mk xi xe xk xv xs xc xq).k 3), .int .u8 (bt (Rc.mk xi xe xk xv xs xc xq).k 4), .int .u8 (bt (Rc.mk xi xe xk xv xs xc xq).k 5), .int .u8 (bt (Rc.mk xi xe xk xv xs xc xq).k 6), .int .u8 (bt (Rc.mk xi xe xk xv xs xc xq).k 7), .int .i64 (Rc.mk xi xe xk xv xs xc xq).v, .string (Rc.mk xi xe xk xv xs xc xq).s, .int .i64 (Rc.mk xi xe xk xv xs xc xq).c, .int .i64 (Rc.mk xi xe xk xv xs xc xq).q]) := (below_alloc' wr (.cells #[.int .i64 0, .int .i64 0, .int .u8 0, .int .u8 0, .int .u8 0, .int .u8 0, .int .u8 0, .int .u8 0, .int .u8 0, .int .u8 0, .int .i64 0, .string ⟨#[]⟩, .int .i64 0, .int .i64 0] 64)).trans (below_setRow _ _ _ (Nat.le_refl _))
        have hb2 := hb.trans (hba.mono hb.size)
        have y2 := At.cell hXr 2
        have y3 := At.cell hXr 3
        have y4 := At.cell hXr 4
        have y5 := At.cell hXr 5
        have y6 := At.cell hXr 6
        have y7 := At.cell hXr 7
        have y8 := At.cell hXr 8
        have y9 := At.cell hXr 9
        have y10 := At.cell hXr 10
        have y11 := At.cell hXr 11
        simp only [List.getElem?_toArray, List.getElem?_cons_zero, List.getElem?_cons_succ] at y2 y3 y4 y5 y6 y7 y8 y9 y10 y11
        have q0 := At.cell (hKy.below hb2) 0
        have q1 := At.cell (hKy.below hb2) 1
        have q2 := At.cell (hKy.below hb2) 2
        have q3 := At.cell (hKy.below hb2) 3
        have q4 := At.cell (hKy.below hb2) 4
        have q5 := At.cell (hKy.below hb2) 5
        have q6 := At.cell (hKy.below hb2) 6
        have q7 := At.cell (hKy.below hb2) 7
        simp only [List.getElem?_toArray, List.getElem?_cons_zero, List.getElem?_cons_succ] at q0 q1 q2 q3 q4 q5 q6 q7
        have hE : ∀ W, (binOp .eql 28 (.agg #[.int .u8 (bt (xk) 0), .int .u8 (bt (xk) 1), .int .u8 (bt (xk) 2), .int .u8 (bt (xk) 3), .int .u8 (bt (xk) 4), .int .u8 (bt (xk) 5), .int .u8 (bt (xk) 6), .int .u8 (bt (xk) 7)]) (.agg #[.int .u8 (bt (q) 0), .int .u8 (bt (q) 1), .int .u8 (bt (q) 2), .int .u8 (bt (q) 3), .int .u8 (bt (q) 4), .int .u8 (bt (q) 5), .int .u8 (bt (q) 6), .int .u8 (bt (q) 7)])).run Tryd.prog W = .ok (.bool (xk == q)) W := fun W => by rw [eql_keys xk q hck0 hq W]; congr 2
        dsimp only at *
        clear hba hb hXr
        by_cases hc1 : (xk == q) = true
        · by_cases hc2 : (xv == ver) = true
          · have ht : (xk == q && xv == ver) = true := by rw [hc1, hc2]; rfl
            skip
            have HAn := HH.out ht
            have HAh : Hid (A = _) := HAn
            clear HS HH HAn
            go_wp2_with (first | refine wpList_load_mid rfl 64 _ rfl bb (o + k * 14) rfl _ _ hrk' Tryd.underlying64 rfl infoRc ?_ | refine wpList_store_row rfl 64 _ _ rfl wr.heap.size #[.int .i64 (Rc.mk xi xe xk xv xs xc xq).ix, .int .i64 (Rc.mk xi xe xk xv xs xc xq).ep, .int .u8 (bt (Rc.mk xi xe xk xv xs xc xq).k 0), .int .u8 (bt (Rc.mk xi xe xk xv xs xc xq).k 1), .int .u8 (bt (Rc.mk xi xe xk xv xs xc xq).k 2), .int .u8 (bt (Rc.mk xi xe xk xv xs xc xq).k 3), .int .u8 (bt (Rc.mk xi xe xk xv xs xc xq).k 4), .int .u8 (bt (Rc.mk xi xe xk xv xs xc xq).k 5), .int .u8 (bt (Rc.mk xi xe xk xv xs xc xq).k 6), .int .u8 (bt (Rc.mk xi xe xk xv xs xc xq).k 7), .int .i64 (Rc.mk xi xe xk xv xs xc xq).v, .string (Rc.mk xi xe xk xv xs xc xq).s, .int .i64 (Rc.mk xi xe xk xv xs xc xq).c, .int .i64 (Rc.mk xi xe xk xv xs xc xq).q] rfl rfl _ _ hX0 infoRc rfl (by simp [Value.oneCell']) ?_)
            have HBE := HB.trans (hb2.mono HB.size)
            rw [HAh.out]
            exact bodyPost_ret (v := .tuple #[.string xs, .bool true]) (by simp [results, Tryd.results23, go_sem]) rfl ⟨rfl, HBE⟩
          · replace hc2 : (xv == ver) = false := by simpa using hc2
            have ht : (xk == q && xv == ver) = false := by rw [hc1, hc2]; rfl
            have HAn : Hid (A = pick1 (s.tail.drop (k + 1)) (fun x => x.k == q && x.v == ver) (fun x => (x.s, true)) (⟨#[]⟩, false)) := HS.out ht
            clear HS HH
            go_wp2_with (first | refine wpList_load_mid rfl 64 _ rfl bb (o + k * 14) rfl _ _ hrk' Tryd.underlying64 rfl infoRc ?_ | refine wpList_store_row rfl 64 _ _ rfl wr.heap.size #[.int .i64 (Rc.mk xi xe xk xv xs xc xq).ix, .int .i64 (Rc.mk xi xe xk xv xs xc xq).ep, .int .u8 (bt (Rc.mk xi xe xk xv xs xc xq).k 0), .int .u8 (bt (Rc.mk xi xe xk xv xs xc xq).k 1), .int .u8 (bt (Rc.mk xi xe xk xv xs xc xq).k 2), .int .u8 (bt (Rc.mk xi xe xk xv xs xc xq).k 3), .int .u8 (bt (Rc.mk xi xe xk xv xs xc xq).k 4), .int .u8 (bt (Rc.mk xi xe xk xv xs xc xq).k 5), .int .u8 (bt (Rc.mk xi xe xk xv xs xc xq).k 6), .int .u8 (bt (Rc.mk xi xe xk xv xs xc xq).k 7), .int .i64 (Rc.mk xi xe xk xv xs xc xq).v, .string (Rc.mk xi xe xk xv xs xc xq).s, .int .i64 (Rc.mk xi xe xk xv xs xc xq).c, .int .i64 (Rc.mk xi xe xk xv xs xc xq).q] rfl rfl _ _ hX0 infoRc rfl (by simp [Value.oneCell']) ?_)
            exact ⟨⟨k + 1, by omega, by go_num, hb2, HAn⟩, by simp [intOf]; omega⟩
        · replace hc1 : (xk == q) = false := by simpa using hc1
          have ht : (xk == q && xv == ver) = false := by rw [hc1]; rfl
          have HAn : Hid (A = pick1 (s.tail.drop (k + 1)) (fun x => x.k == q && x.v == ver) (fun x => (x.s, true)) (⟨#[]⟩, false)) := HS.out ht
          clear HS HH
          go_wp2_with (first | refine wpList_load_mid rfl 64 _ rfl bb (o + k * 14) rfl _ _ hrk' Tryd.underlying64 rfl infoRc ?_ | refine wpList_store_row rfl 64 _ _ rfl wr.heap.size #[.int .i64 (Rc.mk xi xe xk xv xs xc xq).ix, .int .i64 (Rc.mk xi xe xk xv xs xc xq).ep, .int .u8 (bt (Rc.mk xi xe xk xv xs xc xq).k 0), .int .u8 (bt (Rc.mk xi xe xk xv xs xc xq).k 1), .int .u8 (bt (Rc.mk xi xe xk xv xs xc xq).k 2), .int .u8 (bt (Rc.mk xi xe xk xv xs xc xq).k 3), .int .u8 (bt (Rc.mk xi xe xk xv xs xc xq).k 4), .int .u8 (bt (Rc.mk xi xe xk xv xs xc xq).k 5), .int .u8 (bt (Rc.mk xi xe xk xv xs xc xq).k 6), .int .u8 (bt (Rc.mk xi xe xk xv xs xc xq).k 7), .int .i64 (Rc.mk xi xe xk xv xs xc xq).v, .string (Rc.mk xi xe xk xv xs xc xq).s, .int .i64 (Rc.mk xi xe xk xv xs xc xq).c, .int .i64 (Rc.mk xi xe xk xv xs xc xq).q] rfl rfl _ _ hX0 infoRc rfl (by simp [Value.oneCell']) ?_)
          exact ⟨⟨k + 1, by omega, by go_num, hb2, HAn⟩, by simp [intOf]; omega⟩
      · as_aux_lemma =>
        have hki : ¬ (k : Int) < (n : Int) := by omega
        have HE := HA.out
        rw [pick1_end (by rw [hr0.len]; omega)] at HE
        have HEh : Hid (A = _) := HE
        clear HE HA
        go_wp2_with fail
        have HBE := HB.trans (hb.mono HB.size)
        rw [HEh.out]
        exact bodyPost_ret (v := .tuple #[.string ⟨#[]⟩, .bool false]) (by simp [results, Tryd.results23, go_sem]) rfl ⟨rfl, HBE⟩

end Go.Proofs.YtnbgdkdnlfomeaaDoor.M

namespace Go.Proofs.YtnbgdkdnlfomeaaDoor.M
open Go.ChangeShapes Go.WideShapes Go.ChangeAt Go.RowKit Go.ChangeMaps Go.MapKept Go.Maps Go.Shelf Go.Proofs
set_option linter.unusedSimpArgs false

theorem rd_key {w : World} {g a : Nat} (h : At 28 w g #[.int .u8 (bt (a) 0), .int .u8 (bt (a) 1), .int .u8 (bt (a) 2), .int .u8 (bt (a) 3), .int .u8 (bt (a) 4), .int .u8 (bt (a) 5), .int .u8 (bt (a) 6), .int .u8 (bt (a) 7)]) : Rd .u8 w (some ⟨g, 0, none⟩) 8 8 (eigL a) := by
  refine ⟨eigL_len a, Nat.le_refl _, (fun h => by cases h), fun _ => ⟨g, 0, rfl, fun i hi => ?_⟩⟩
  have h1 := key_add h i ((eigL a).getD i 0) (by rw [List.getD_eq_getElem?_getD, List.getElem?_eq_getElem (by rw [eigL_len]; exact hi)]; rfl)
  rw [Addr.add_lit] at h1
  exact h1

theorem less_cmp : ∀ (x y : List UInt8), x.length = y.length → Op.bytesLess x y = decide (Lib.compareBytes x y < 0)
  | [], [], _ => rfl
  | a :: x, b :: y, h => by
    have ih := less_cmp x y (by simpa using h)
    show (decide (a < b) || (a == b && Op.bytesLess x y)) = decide ((if a < b then (-1 : Int) else if b < a then 1 else Lib.compareBytes x y) < 0)
    rw [ih]
    by_cases h1 : a < b
    · rw [if_pos h1, decide_eq_true h1]
      rfl
    · rw [if_neg h1, decide_eq_false h1]
      by_cases h2 : b < a
      · rw [if_pos h2]
        have : (a == b) = false := by
          rw [beq_eq_false_iff_ne]
          rintro rfl
          exact absurd h2 h1
        rw [this]
        rfl
      · rw [if_neg h2]
        have : a = b := by
          have e1 := UInt8.not_lt.1 h1
          have e2 := UInt8.not_lt.1 h2
          exact UInt8.le_antisymm e2 e1
        rw [this]
        simp

theorem less_key {a b : Nat} (ha : a < 18446744073709551616) (hb : b < 18446744073709551616) : Op.bytesLess (strOfNums (eigL a)).toList (strOfNums (eigL b)).toList = decide (a < b) := by
  rw [ByteArray.toList_eq, ByteArray.toList_eq, strOfNums_data, strOfNums_data]
  have e : ∀ n : Nat, ((eigL n).map fun n => UInt8.ofNat n.toNat) = Lib.bytesOf (eigL n) := fun n => rfl
  rw [e, e, less_cmp _ _ (by simp [Lib.bytesOf, eigL_len]), cmp_be (by rw [eigL_len, eigL_len]) (eigL_by a) (eigL_by b), be_eig ha, be_eig hb]
  unfold cmpN
  by_cases h : a < b
  · rw [if_pos h]; simp [h]
  · rw [if_neg h]
    split <;> simp [h]

set_option maxRecDepth 20000 in
set_option maxHeartbeats 1000000 in
theorem rLess_any {a b : Nat} (ha : a < 18446744073709551616) (hb : b < 18446744073709551616) (w : World) :
    Calls Tryd.prog 70 #[.agg #[.int .u8 (bt (a) 0), .int .u8 (bt (a) 1), .int .u8 (bt (a) 2), .int .u8 (bt (a) 3), .int .u8 (bt (a) 4), .int .u8 (bt (a) 5), .int .u8 (bt (a) 6), .int .u8 (bt (a) 7)], .agg #[.int .u8 (bt (b) 0), .int .u8 (bt (b) 1), .int .u8 (bt (b) 2), .int .u8 (bt (b) 3), .int .u8 (bt (b) 4), .int .u8 (bt (b) 5), .int .u8 (bt (b) 6), .int .u8 (bt (b) 7)]] w fun e w' => e = .returned (.bool (decide (a < b))) ∧ Below w.heap.size w w' := by
  have h1 := below_alloc' w (.cells #[.int .u8 (bt (a) 0), .int .u8 (bt (a) 1), .int .u8 (bt (a) 2), .int .u8 (bt (a) 3), .int .u8 (bt (a) 4), .int .u8 (bt (a) 5), .int .u8 (bt (a) 6), .int .u8 (bt (a) 7)] 28)
  have h2 := below_alloc' (w.alloc (.cells #[.int .u8 (bt (a) 0), .int .u8 (bt (a) 1), .int .u8 (bt (a) 2), .int .u8 (bt (a) 3), .int .u8 (bt (a) 4), .int .u8 (bt (a) 5), .int .u8 (bt (a) 6), .int .u8 (bt (a) 7)] 28)) (.cells #[.int .u8 (bt (b) 0), .int .u8 (bt (b) 1), .int .u8 (bt (b) 2), .int .u8 (bt (b) 3), .int .u8 (bt (b) 4), .int .u8 (bt (b) 5), .int .u8 (bt (b) 6), .int .u8 (bt (b) 7)] 28)
  have hs : (w.alloc (.cells #[.int .u8 (bt (a) 0), .int .u8 (bt (a) 1), .int .u8 (bt (a) 2), .int .u8 (bt (a) 3), .int .u8 (bt (a) 4), .int .u8 (bt (a) 5), .int .u8 (bt (a) 6), .int .u8 (bt (a) 7)] 28)).heap.size = w.heap.size + 1 := by simp
  have hA := (At.new 28 w #[.int .u8 (bt (a) 0), .int .u8 (bt (a) 1), .int .u8 (bt (a) 2), .int .u8 (bt (a) 3), .int .u8 (bt (a) 4), .int .u8 (bt (a) 5), .int .u8 (bt (a) 6), .int .u8 (bt (a) 7)]).below h2
  have hB := At.new 28 (w.alloc (.cells #[.int .u8 (bt (a) 0), .int .u8 (bt (a) 1), .int .u8 (bt (a) 2), .int .u8 (bt (a) 3), .int .u8 (bt (a) 4), .int .u8 (bt (a) 5), .int .u8 (bt (a) 6), .int .u8 (bt (a) 7)] 28)) #[.int .u8 (bt (b) 0), .int .u8 (bt (b) 1), .int .u8 (bt (b) 2), .int .u8 (bt (b) 3), .int .u8 (bt (b) 4), .int .u8 (bt (b) 5), .int .u8 (bt (b) 6), .int .u8 (bt (b) 7)]
  rw [hs] at hB
  have hb2 := h1.trans (h2.mono h1.size)
  clear h1 h2 hs
  generalize hW : (w.alloc (.cells #[.int .u8 (bt (a) 0), .int .u8 (bt (a) 1), .int .u8 (bt (a) 2), .int .u8 (bt (a) 3), .int .u8 (bt (a) 4), .int .u8 (bt (a) 5), .int .u8 (bt (a) 6), .int .u8 (bt (a) 7)] 28)).alloc (.cells #[.int .u8 (bt (b) 0), .int .u8 (bt (b) 1), .int .u8 (bt (b) 2), .int .u8 (bt (b) 3), .int .u8 (bt (b) 4), .int .u8 (bt (b) 5), .int .u8 (bt (b) 6), .int .u8 (bt (b) 7)] 28) = W0 at *
  go_enter Tryd.func70, Tryd.ntmps70
  go_wp2_with fail
  have hS0 : Bl W0 W0.drew := (Below.refl _ _).drew
  refine wp_region_det [0, 1, 2, 3, 4, 5] (Bl W0) (Bl W0) (by kernel_rfl) hS0 ?_
  refine wpDet_take ?vW0 (Bl.stays W0) (fun _ h => h) (i := 0) rfl (by kernel_rfl) (by kernel_rfl) (by kernel_rfl) (by kernel_rfl) (fun _ _ _ h => h) (Gives.value (by rfl) ?yW0) ?rW0
  case yW0 => (intro w' hSw; (try dsimp only at hSw); go_simp; try with_reducible rfl)
  (try simp only [Act.put, List.getElem_toArray, List.getElem_cons_zero, List.getElem_cons_succ, List.setIfInBounds_toArray, List.set_cons_zero, List.set_cons_succ])
  refine wpDet_take ?vW1 (Bl.stays W0) (fun _ h => h) (i := 1) rfl (by kernel_rfl) (by kernel_rfl) (by kernel_rfl) (by kernel_rfl) (fun _ _ _ h => h) (Gives.value (by rfl) ?yW1) ?rW1
  case yW1 => (intro w' hSw; have hq := (rd_key (At.below hA (Bl.out hSw))).str; (try dsimp only at hSw); go_simp; try with_reducible rfl)
  (try simp only [Act.put, List.getElem_toArray, List.getElem_cons_zero, List.getElem_cons_succ, List.setIfInBounds_toArray, List.set_cons_zero, List.set_cons_succ])
  refine wpDet_take ?vW2 (Bl.stays W0) (fun _ h => h) (i := 2) rfl (by kernel_rfl) (by kernel_rfl) (by kernel_rfl) (by kernel_rfl) (fun _ _ _ h => h) (Gives.value (by rfl) ?yW2) ?rW2
  case yW2 => (intro w' hSw; (try dsimp only at hSw); go_simp; try with_reducible rfl)
  (try simp only [Act.put, List.getElem_toArray, List.getElem_cons_zero, List.getElem_cons_succ, List.setIfInBounds_toArray, List.set_cons_zero, List.set_cons_succ])
  refine wpDet_take ?vW3 (Bl.stays W0) (fun _ h => h) (i := 3) rfl (by kernel_rfl) (by kernel_rfl) (by kernel_rfl) (by kernel_rfl) (fun _ _ _ h => h) (Gives.value (by rfl) ?yW3) ?rW3
  case yW3 => (intro w' hSw; have hq := (rd_key (At.below hB (Bl.out hSw))).str; (try dsimp only at hSw); go_simp; try with_reducible rfl)
  (try simp only [Act.put, List.getElem_toArray, List.getElem_cons_zero, List.getElem_cons_succ, List.setIfInBounds_toArray, List.set_cons_zero, List.set_cons_succ])
  refine wpDet_take ?vW4 (Bl.stays W0) (fun _ h => h) (i := 4) rfl (by kernel_rfl) (by kernel_rfl) (by kernel_rfl) (by kernel_rfl) (fun _ _ _ h => h) (Gives.value (by rfl) ?yW4) ?rW4
  case yW4 => (intro w' hSw; (try dsimp only at hSw); go_simp; try with_reducible rfl)
  (try simp only [Act.put, List.getElem_toArray, List.getElem_cons_zero, List.getElem_cons_succ, List.setIfInBounds_toArray, List.set_cons_zero, List.set_cons_succ])
  refine wpDet_take ?vW5 (Bl.stays W0) (fun _ h => h) (i := 5) rfl (by kernel_rfl) (by kernel_rfl) (by kernel_rfl) (by kernel_rfl) (fun _ _ _ h => h) (Gives.value (by rfl) ?yW5) ?rW5
  case yW5 => (intro w' hSw; (try dsimp only at hSw); go_simp; try with_reducible rfl)
  (try simp only [Act.put, List.getElem_toArray, List.getElem_cons_zero, List.getElem_cons_succ, List.setIfInBounds_toArray, List.set_cons_zero, List.set_cons_succ])
  refine wpDet_done (by kernel_rfl) (fun W9 hV => ?_) _
  go_wp2_with fail
  go_ret
  refine ⟨?_, hb2.trans ((Bl.out hV).mono hb2.size)⟩
  show Ending.returned (.bool (Op.bytesLess (strOfNums (eigL a)).toList (strOfNums (eigL b)).toList)) = _
  rw [less_key ha hb]

end Go.Proofs.YtnbgdkdnlfomeaaDoor.M

namespace Go.Proofs.YtnbgdkdnlfomeaaDoor.M
open Go.ChangeShapes Go.WideShapes Go.ChangeAt Go.RowKit Go.ChangeMaps Go.MapKept Go.Maps Go.Shelf Go.Proofs
set_option linter.unusedSimpArgs false

/-- One cell of the loop. -/
def stT (cx : Ce) (st : Bool × List Ce) (c : Ce) : Bool × List Ce :=
  if st.1 = false ∧ ¬ c.k < cx.k then (if c.k ≠ cx.k then (true, st.2 ++ [cx] ++ [c]) else (true, st.2 ++ [cx])) else (if c.k ≠ cx.k then (st.1, st.2 ++ [c]) else st)

def endT (cx : Ce) (st : Bool × List Ce) : List Ce := if st.1 = false then st.2 ++ [cx] else st.2

def putT (C : List Ce) (cx : Ce) : List Ce := endT cx (C.foldl (stT cx) (false, []))

/-- A cell among rising ones. -/
def insT : List Ce → Ce → List Ce
  | [], cx => [cx]
  | c :: l, cx => if c.k < cx.k then c :: insT l cx else if c.k = cx.k then cx :: l else cx :: c :: l

theorem stT_true {cx : Ce} : ∀ (C : List Ce) (acc : List Ce), (∀ c ∈ C, c.k ≠ cx.k) → C.foldl (stT cx) (true, acc) = (true, acc ++ C)
  | [], acc, _ => by simp
  | c :: C, acc, h => by
    have h1 : stT cx (true, acc) c = (true, acc ++ [c]) := by
      unfold stT
      rw [if_neg (by simp), if_pos (h c (List.mem_cons_self ..))]
    rw [List.foldl_cons, h1, stT_true C _ fun d hd => h d (List.mem_cons_of_mem _ hd), List.append_assoc]
    rfl

theorem stT_false {cx : Ce} : ∀ (C : List Ce) (acc : List Ce), Rise C → endT cx (C.foldl (stT cx) (false, acc)) = acc ++ insT C cx
  | [], acc, _ => rfl
  | c :: C, acc, h => by
    have hr := List.pairwise_cons.1 h
    rw [List.foldl_cons]
    unfold insT
    by_cases h1 : c.k < cx.k
    · have e : stT cx (false, acc) c = (false, acc ++ [c]) := by
        unfold stT
        rw [if_neg (fun e => e.2 h1), if_pos (Nat.ne_of_lt h1)]
      rw [if_pos h1, e, stT_false C _ hr.2, List.append_assoc]
      rfl
    · rw [if_neg h1]
      by_cases h2 : c.k = cx.k
      · have e : stT cx (false, acc) c = (true, acc ++ [cx]) := by
          unfold stT
          rw [if_pos ⟨rfl, h1⟩, if_neg (fun e => e h2)]
        rw [if_pos h2, e, stT_true C _ fun d hd => by have := hr.1 d hd; omega]
        show acc ++ [cx] ++ C = acc ++ (cx :: C)
        rw [List.append_assoc]
        rfl
      · have e : stT cx (false, acc) c = (true, acc ++ [cx] ++ [c]) := by
          unfold stT
          rw [if_pos ⟨rfl, h1⟩, if_pos h2]
        rw [if_neg h2, e, stT_true C _ fun d hd => by have := hr.1 d hd; omega]
        show acc ++ [cx] ++ [c] ++ C = acc ++ (cx :: c :: C)
        rw [List.append_assoc, List.append_assoc]
        rfl

theorem insT_mem {cx : Ce} : ∀ {C : List Ce} {d : Ce}, d ∈ insT C cx → d = cx ∨ d ∈ C
  | [], d, h => Or.inl (List.mem_singleton.1 h)
  | c :: C, d, h => by
    unfold insT at h
    split at h
    · rcases List.mem_cons.1 h with rfl | h
      · exact Or.inr (List.mem_cons_self ..)
      · rcases insT_mem h with h | h
        · exact Or.inl h
        · exact Or.inr (List.mem_cons_of_mem _ h)
    · split at h
      · rcases List.mem_cons.1 h with rfl | h
        · exact Or.inl rfl
        · exact Or.inr (List.mem_cons_of_mem _ h)
      · rcases List.mem_cons.1 h with rfl | h
        · exact Or.inl rfl
        · exact Or.inr h

theorem insT_rise {cx : Ce} : ∀ {C : List Ce}, Rise C → Rise (insT C cx)
  | [], _ => List.pairwise_singleton _ _
  | c :: C, h => by
    have hr := List.pairwise_cons.1 h
    unfold insT
    split
    · rename_i h1
      refine List.pairwise_cons.2 ⟨fun d hd => ?_, insT_rise hr.2⟩
      rcases insT_mem hd with rfl | hd
      · exact h1
      · exact hr.1 d hd
    · split
      · rename_i h1 h2
        exact List.pairwise_cons.2 ⟨fun d hd => by have := hr.1 d hd; omega, hr.2⟩
      · rename_i h1 h2
        refine List.pairwise_cons.2 ⟨fun d hd => ?_, h⟩
        rcases List.mem_cons.1 hd with rfl | hd
        · omega
        · have := hr.1 d hd; omega

theorem insT_perm {cx : Ce} : ∀ {C : List Ce}, Rise C → (insT C cx).Perm (putC C cx)
  | [], _ => List.Perm.refl _
  | c :: C, h => by
    have hr := List.pairwise_cons.1 h
    unfold insT putC
    by_cases h1 : c.k < cx.k
    · rw [if_pos h1, if_neg (by omega)]
      exact (insT_perm hr.2).cons c
    · rw [if_neg h1]
      by_cases h2 : c.k = cx.k
      · rw [if_pos h2, if_pos h2]
      · rw [if_neg h2, if_neg h2]
        have hn : lookC C cx.k = none := by
          cases hl : lookC C cx.k with
          | none => rfl
          | some d =>
            obtain ⟨hd, e⟩ := lookC_mem hl
            have := hr.1 d hd
            omega
        rw [putC_new hn]
        have hp : (cx :: c :: C).Perm ((c :: C) ++ [cx]) := (List.perm_append_singleton cx (c :: C)).symm
        exact hp

theorem putC_perm {A B : List Ce} (hA : Keys A) (hp : A.Perm B) (cx : Ce) (hk : cx.k < 18446744073709551616) : sortC (putC A cx) = sortC (putC B cx) := by
  have hB := hA.perm hp
  have kA := putC_keys hA hk
  have kB := putC_keys hB hk
  refine rise_eq (sortC_rise _ kA) (sortC_rise _ kB) ((sortC_perm _).trans (List.Perm.trans ?_ (sortC_perm _).symm))
  refine (List.perm_ext_iff_of_nodup (kA.1.imp fun h e => h (by rw [e])) (kB.1.imp fun h e => h (by rw [e]))).2 fun c => ?_
  have key : ∀ {X Y : List Ce}, Keys X → Keys Y → (∀ k, lookC X k = lookC Y k) → c ∈ X → c ∈ Y := fun hX hY hl hc => by
    have := lookC_in hX hc
    rw [hl] at this
    exact (lookC_mem this).1
  have hl : ∀ k, lookC (putC A cx) k = lookC (putC B cx) k := fun k => by rw [lookC_putC, lookC_putC, lookC_perm hA hp]
  exact ⟨key kA kB hl, key kB kA fun k => (hl k).symm⟩

/-- The cells of a table with a record more. -/
theorem putT_sort {m : Sm} (h : m.tb) (cx : Ce) (hk : cx.k < 18446744073709551616) : putT (sortC m.cs) cx = sortC (putC m.cs cx) := by
  have hr := sortC_rise m.cs h.ks
  have e : putT (sortC m.cs) cx = insT (sortC m.cs) cx := by
    unfold putT
    rw [stT_false _ _ hr]
    rfl
  have hK : Keys (sortC m.cs) := h.ks.perm (sortC_perm m.cs).symm
  rw [e, ← putC_perm hK (sortC_perm m.cs) cx hk]
  exact rise_eq (insT_rise hr) (sortC_rise _ (putC_keys hK hk)) ((insT_perm hr).trans (sortC_perm _).symm)

/-- What the first so many clients got, with a record more. -/
def putD (D : List Dn) (x : Rc) : Nat → List Dn
  | 0 => []
  | k + 1 => putD D x k ++ (if (k : Int) = x.c then [⟨k, x.q, x.v⟩] else D.filter fun d => d.c == (k : Int))

theorem donL_filter {m : Sm} (h : m.tb) (k : Nat) (hk : k < 4) : (donL m 4).filter (fun d => d.c == (k : Int)) = if 0 < (m.d k).q then [m.d k] else [] := by
  have key : ∀ n, n ≤ 4 → (donL m n).filter (fun d => d.c == (k : Int)) = if k < n ∧ 0 < (m.d k).q then [m.d k] else [] := fun n => by
    induction n with
    | zero => intro _; rw [if_neg (by omega)]; rfl
    | succ n ih =>
      intro hn
      have ihn := ih (by omega)
      by_cases hq : 0 < (m.d n).q
      · rw [donL_yes hq, List.filter_append, ihn]
        have hc := (h.dc n (by omega) hq).1
        by_cases hkn : k = n
        · subst hkn
          rw [if_neg (by omega), if_pos ⟨by omega, hq⟩, List.filter_cons_of_pos (by simp [hc])]
          rfl
        · rw [List.filter_cons_of_neg (by simp [hc]; omega)]
          by_cases h2 : k < n ∧ 0 < (m.d k).q
          · rw [if_pos h2, if_pos ⟨by omega, h2.2⟩]; rfl
          · rw [if_neg h2, if_neg (by omega)]; rfl
      · rw [donL_no hq, ihn]
        by_cases h2 : k < n ∧ 0 < (m.d k).q
        · rw [if_pos h2, if_pos ⟨by omega, h2.2⟩]
        · rw [if_neg h2, if_neg]
          rintro ⟨h3, h4⟩
          rcases Nat.lt_or_eq_of_le (Nat.le_of_lt_succ h3) with h5 | h5
          · exact h2 ⟨h5, h4⟩
          · subst h5; exact hq h4
  rw [key 4 (Nat.le_refl _)]
  by_cases hq : 0 < (m.d k).q
  · rw [if_pos ⟨hk, hq⟩, if_pos hq]
  · rw [if_neg (fun e => hq e.2), if_neg hq]

theorem putD_donL {m : Sm} (h : m.tb) {x : Rc} (hq : 1 ≤ x.q) : ∀ k, k ≤ 4 → putD (donL m 4) x k = donL (m.add x) k
  | 0, _ => rfl
  | k + 1, hk => by
    have ih := putD_donL h hq k (by omega)
    have hd : (m.add x).d k = if (k : Int) = x.c then ⟨x.c, x.q, x.v⟩ else m.d k := rfl
    unfold putD
    rw [ih]
    by_cases hc : (k : Int) = x.c
    · rw [if_pos hc] at hd ⊢
      rw [donL_yes (by rw [hd]; show 0 < x.q; omega), hd, hc]
    · rw [if_neg hc] at hd ⊢
      rw [donL_filter h k (by omega)]
      by_cases h0 : 0 < (m.d k).q
      · rw [if_pos h0, donL_yes (by rw [hd]; exact h0), hd]
      · rw [if_neg h0, donL_no (by rw [hd]; exact h0), List.append_nil]

end Go.Proofs.YtnbgdkdnlfomeaaDoor.M

namespace Go.Proofs.YtnbgdkdnlfomeaaDoor.M
open Go.ChangeShapes Go.WideShapes Go.ChangeAt Go.RowKit Go.ChangeMaps Go.MapKept Go.Maps Go.Shelf Go.Proofs
set_option linter.unusedSimpArgs false

/-- The document's Put under way: four boxes, and the lists that it makes. -/
structure PT (w : World) (tb : Array Value) (x : Rc) (p : Option Addr) (n c : Nat) (out : List Ce) (q : Option Addr) (m d : Nat) (od : List Dn) (W : World) : Prop where
  bel : Below w.heap.size w W
  b2 : At 25 W w.heap.size tb
  b3 : At 64 W (w.heap.size + 1) #[.int .i64 x.ix, .int .i64 x.ep, .int .u8 (bt x.k 0), .int .u8 (bt x.k 1), .int .u8 (bt x.k 2), .int .u8 (bt x.k 3), .int .u8 (bt x.k 4), .int .u8 (bt x.k 5), .int .u8 (bt x.k 6), .int .u8 (bt x.k 7), .int .i64 x.v, .string x.s, .int .i64 x.c, .int .i64 x.q]
  b4 : At 25 W (w.heap.size + 1 + 1) #[.int .i64 0, .int .i64 0, .slice none 0 0, .slice none 0 0]
  b5 : At 25 W (w.heap.size + 1 + 1 + 1) #[.int .i64 x.ix, .int .i64 x.ep, .slice p n c, .slice q m d]
  oc : OwG celS 53 W (w.heap.size + 4) p n c out
  od : OwG donS 82 W (w.heap.size + 4) q m d od
  ap : ∀ k, mine p c k → mine q d k → False
  sz : w.heap.size + 4 ≤ W.heap.size

theorem PT.below {w : World} {tb : Array Value} {x : Rc} {p : Option Addr} {n c : Nat} {out : List Ce} {q : Option Addr} {m d : Nat} {od : List Dn} {W W' : World} (h : PT w tb x p n c out q m d od W) (hb : Below W.heap.size W W') : PT w tb x p n c out q m d od W' :=
  ⟨h.bel.trans (hb.mono h.bel.size), h.b2.below hb, h.b3.below hb, h.b4.below hb, h.b5.below hb, h.oc.below hb, h.od.below hb, h.ap, Nat.le_trans h.sz hb.size⟩

theorem PT.appC {w : World} {tb : Array Value} {x : Rc} {p : Option Addr} {n c : Nat} {out : List Ce} {q : Option Addr} {m d : Nat} {od : List Dn} {W : World} (h : PT w tb x p n c out q m d od W) (c1 : Ce) (hn : n ≤ 1000) : ∃ p9 c9 w9,
    (Builtin.append_ #[22, 22] 22 #[.slice p n c, .slice (some ⟨W.heap.size, 0, none⟩) 1 1]).run Tryd.prog (W.alloc (.cells #[.int .u8 (bt c1.k 0), .int .u8 (bt c1.k 1), .int .u8 (bt c1.k 2), .int .u8 (bt c1.k 3), .int .u8 (bt c1.k 4), .int .u8 (bt c1.k 5), .int .u8 (bt c1.k 6), .int .u8 (bt c1.k 7), .int .i64 c1.v, .string c1.s] 53)) = .ok (.slice p9 (n + 1) c9) w9 ∧
    w9.cell? ⟨w.heap.size + 1 + 1 + 1, 2, none⟩ = some (.slice p n c) ∧ w9.frozen? ⟨w.heap.size + 1 + 1 + 1, 2, none⟩ = false ∧ PT w tb x p9 (n + 1) c9 (out ++ [c1]) q m d od (w9.setCell ⟨w.heap.size + 1 + 1 + 1, 2, none⟩ (.slice p9 (n + 1) c9)) ∧ ∀ g, g < W.heap.size → g ≠ w.heap.size + 1 + 1 + 1 → ¬ mine p c g → (w9.setCell ⟨w.heap.size + 1 + 1 + 1, 2, none⟩ (.slice p9 (n + 1) c9)).heap[g]? = W.heap[g]? := by
  obtain ⟨i0, hi0, hz0, hz1, hz2⟩ := info_parts infoCel
  have hb := below_alloc' W (.cells #[.int .u8 (bt c1.k 0), .int .u8 (bt c1.k 1), .int .u8 (bt c1.k 2), .int .u8 (bt c1.k 3), .int .u8 (bt c1.k 4), .int .u8 (bt c1.k 5), .int .u8 (bt c1.k 6), .int .u8 (bt c1.k 7), .int .i64 c1.v, .string c1.s] 53)
  have h1 := h.below hb
  have hr := rd_of1 celS (t := 53) W c1 #[.int .u8 (bt c1.k 0), .int .u8 (bt c1.k 1), .int .u8 (bt c1.k 2), .int .u8 (bt c1.k 3), .int .u8 (bt c1.k 4), .int .u8 (bt c1.k 5), .int .u8 (bt c1.k 6), .int .u8 (bt c1.k 7), .int .i64 c1.v, .string c1.s] rfl
  have hsz := h.sz
  obtain ⟨p9, c9, w9, hrun, ho9, hch9, hnew9⟩ := run_appG (P := Tryd.prog) (W.alloc (.cells #[.int .u8 (bt c1.k 0), .int .u8 (bt c1.k 1), .int .u8 (bt c1.k 2), .int .u8 (bt c1.k 3), .int .u8 (bt c1.k 4), .int .u8 (bt c1.k 5), .int .u8 (bt c1.k 6), .int .u8 (bt c1.k 7), .int .i64 c1.v, .string c1.s] 53)) 22 22 53 i0 _ 32 Tryd.underlying22 hi0 hz0 hz1 hz2 rfl h1.oc hr (by omega) (by unfold maxLen; omega) h1.sz
  have hlo : ∀ k, mine p c k → w.heap.size + 4 ≤ k := fun k hk => (h1.oc.lt hk).1
  have kp : ∀ g, g < w.heap.size + 4 → w9.heap[g]? = (W.alloc (.cells #[.int .u8 (bt c1.k 0), .int .u8 (bt c1.k 1), .int .u8 (bt c1.k 2), .int .u8 (bt c1.k 3), .int .u8 (bt c1.k 4), .int .u8 (bt c1.k 5), .int .u8 (bt c1.k 6), .int .u8 (bt c1.k 7), .int .i64 c1.v, .string c1.s] 53)).heap[g]? := fun g hg => hch9.block g (by have := h1.sz; omega) fun e => by have := hlo g e; omega
  have b5 : At 25 w9 (w.heap.size + 1 + 1 + 1) #[.int .i64 x.ix, .int .i64 x.ep, .slice p n c, .slice q m d] := At.same h1.b5 (kp _ (by omega))
  have hset : ∀ g, g ≠ w.heap.size + 1 + 1 + 1 → (w9.setCell ⟨w.heap.size + 1 + 1 + 1, 2, none⟩ (.slice p9 (n + 1) c9)).heap[g]? = w9.heap[g]? := fun g hg => heap_setC _ _ _ _ _ hg
  have hcs := Ch.setCell w9 ⟨w.heap.size + 1 + 1 + 1, 2, none⟩ (.slice p9 (n + 1) c9)
  refine ⟨p9, c9, w9, hrun, At.cell b5 2, At.free b5 2, ?_, fun g hg hg5 hgm => by rw [hset g hg5, hch9.block g (by have := hb.size; omega) hgm, hb.block g hg]⟩
  have hne9 : ∀ k, mine p9 c9 k → k ≠ w.heap.size + 1 + 1 + 1 := fun k hk => by have := (ho9.lt hk).1; omega
  have ho : ∀ k, mine q d k → w.heap.size + 4 ≤ k ∧ k < (W.alloc (.cells #[.int .u8 (bt c1.k 0), .int .u8 (bt c1.k 1), .int .u8 (bt c1.k 2), .int .u8 (bt c1.k 3), .int .u8 (bt c1.k 4), .int .u8 (bt c1.k 5), .int .u8 (bt c1.k 6), .int .u8 (bt c1.k 7), .int .i64 c1.v, .string c1.s] 53)).heap.size := fun k hk => h1.od.lt hk
  have hoo := (h1.od.ch hch9 fun k hk e => h.ap k e hk).ch hcs fun k hk e => by have := (ho k hk).1; simp only at e; omega
  refine ⟨?_, At.same (At.same h1.b2 (kp _ (by omega))) (hset _ (by omega)), At.same (At.same h1.b3 (kp _ (by omega))) (hset _ (by omega)), At.same (At.same h1.b4 (kp _ (by omega))) (hset _ (by omega)), At.setC b5 2 _, ho9.ch hcs (fun k hk e => hne9 k hk e), hoo, fun k h1' h2' => ?_, ?_⟩
  · exact (h1.bel.trans (hch9.below h1.bel.size fun k hk => by have := hlo k hk; omega)).trans (hcs.below (by have := h1.bel.size; have := hch9.size; omega) fun k hk => by simp only at hk; omega)
  · rcases hnew9 k h1' with h3 | h3
    · exact h.ap k h3 h2'
    · have := (ho k h2').2
      omega
  · have := h1.sz
    have := hch9.size
    simp [World.setCell]
    omega

theorem PT.appD {w : World} {tb : Array Value} {x : Rc} {p : Option Addr} {n c : Nat} {out : List Ce} {q : Option Addr} {m d : Nat} {od : List Dn} {W : World} (h : PT w tb x p n c out q m d od W) (c1 : Dn) (hn : m ≤ 1000) : ∃ p9 c9 w9,
    (Builtin.append_ #[23, 23] 23 #[.slice q m d, .slice (some ⟨W.heap.size, 0, none⟩) 1 1]).run Tryd.prog (W.alloc (.cells #[.int .i64 c1.c, .int .i64 c1.q, .int .i64 c1.v] 82)) = .ok (.slice p9 (m + 1) c9) w9 ∧
    w9.cell? ⟨w.heap.size + 1 + 1 + 1, 3, none⟩ = some (.slice q m d) ∧ w9.frozen? ⟨w.heap.size + 1 + 1 + 1, 3, none⟩ = false ∧ PT w tb x p n c out p9 (m + 1) c9 (od ++ [c1]) (w9.setCell ⟨w.heap.size + 1 + 1 + 1, 3, none⟩ (.slice p9 (m + 1) c9)) ∧ ∀ g, g < W.heap.size → g ≠ w.heap.size + 1 + 1 + 1 → ¬ mine q d g → (w9.setCell ⟨w.heap.size + 1 + 1 + 1, 3, none⟩ (.slice p9 (m + 1) c9)).heap[g]? = W.heap[g]? := by
  obtain ⟨i0, hi0, hz0, hz1, hz2⟩ := info_parts infoDon
  have hb := below_alloc' W (.cells #[.int .i64 c1.c, .int .i64 c1.q, .int .i64 c1.v] 82)
  have h1 := h.below hb
  have hr := rd_of1 donS (t := 82) W c1 #[.int .i64 c1.c, .int .i64 c1.q, .int .i64 c1.v] rfl
  have hsz := h.sz
  obtain ⟨p9, c9, w9, hrun, ho9, hch9, hnew9⟩ := run_appG (P := Tryd.prog) (W.alloc (.cells #[.int .i64 c1.c, .int .i64 c1.q, .int .i64 c1.v] 82)) 23 23 82 i0 _ 24 Tryd.underlying23 hi0 hz0 hz1 hz2 rfl h1.od hr (by omega) (by unfold maxLen; omega) h1.sz
  have hlo : ∀ k, mine q d k → w.heap.size + 4 ≤ k := fun k hk => (h1.od.lt hk).1
  have kp : ∀ g, g < w.heap.size + 4 → w9.heap[g]? = (W.alloc (.cells #[.int .i64 c1.c, .int .i64 c1.q, .int .i64 c1.v] 82)).heap[g]? := fun g hg => hch9.block g (by have := h1.sz; omega) fun e => by have := hlo g e; omega
  have b5 : At 25 w9 (w.heap.size + 1 + 1 + 1) #[.int .i64 x.ix, .int .i64 x.ep, .slice p n c, .slice q m d] := At.same h1.b5 (kp _ (by omega))
  have hset : ∀ g, g ≠ w.heap.size + 1 + 1 + 1 → (w9.setCell ⟨w.heap.size + 1 + 1 + 1, 3, none⟩ (.slice p9 (m + 1) c9)).heap[g]? = w9.heap[g]? := fun g hg => heap_setC _ _ _ _ _ hg
  have hcs := Ch.setCell w9 ⟨w.heap.size + 1 + 1 + 1, 3, none⟩ (.slice p9 (m + 1) c9)
  refine ⟨p9, c9, w9, hrun, At.cell b5 3, At.free b5 3, ?_, fun g hg hg5 hgm => by rw [hset g hg5, hch9.block g (by have := hb.size; omega) hgm, hb.block g hg]⟩
  have hne9 : ∀ k, mine p9 c9 k → k ≠ w.heap.size + 1 + 1 + 1 := fun k hk => by have := (ho9.lt hk).1; omega
  have ho : ∀ k, mine p c k → w.heap.size + 4 ≤ k ∧ k < (W.alloc (.cells #[.int .i64 c1.c, .int .i64 c1.q, .int .i64 c1.v] 82)).heap.size := fun k hk => h1.oc.lt hk
  have hoo := (h1.oc.ch hch9 fun k hk e => h.ap k hk e).ch hcs fun k hk e => by have := (ho k hk).1; simp only at e; omega
  refine ⟨?_, At.same (At.same h1.b2 (kp _ (by omega))) (hset _ (by omega)), At.same (At.same h1.b3 (kp _ (by omega))) (hset _ (by omega)), At.same (At.same h1.b4 (kp _ (by omega))) (hset _ (by omega)), At.setC b5 3 _, hoo, ho9.ch hcs (fun k hk e => hne9 k hk e), fun k h1' h2' => ?_, ?_⟩
  · exact (h1.bel.trans (hch9.below h1.bel.size fun k hk => by have := hlo k hk; omega)).trans (hcs.below (by have := h1.bel.size; have := hch9.size; omega) fun k hk => by simp only at hk; omega)
  · rcases hnew9 k h2' with h3 | h3
    · exact h.ap k h1' h3
    · have := (ho k h1').2
      omega
  · have := h1.sz
    have := hch9.size
    simp [World.setCell]
    omega

theorem bsl_ce (c : Ce) (w : World) : (Instr.buildSlice 22 1 #[(0, .agg #[.int .u8 (bt c.k 0), .int .u8 (bt c.k 1), .int .u8 (bt c.k 2), .int .u8 (bt c.k 3), .int .u8 (bt c.k 4), .int .u8 (bt c.k 5), .int .u8 (bt c.k 6), .int .u8 (bt c.k 7), .int .i64 c.v, .string c.s])]).run Tryd.prog w = .ok (.slice (some ⟨w.heap.size, 0, none⟩) 1 1) (w.alloc (.cells #[.int .u8 (bt c.k 0), .int .u8 (bt c.k 1), .int .u8 (bt c.k 2), .int .u8 (bt c.k 3), .int .u8 (bt c.k 4), .int .u8 (bt c.k 5), .int .u8 (bt c.k 6), .int .u8 (bt c.k 7), .int .i64 c.v, .string c.s] 53)) := by
  have hu := Tryd.underlying22
  have hz := Tryd.zeroValue53
  have hs : (sizeOf 53).run Tryd.prog w = .ok 10 w := by go_simp
  simp [Instr.buildSlice, run_underlying hu, hz, hs, go_sem]

theorem bsl_dn (c : Dn) (w : World) : (Instr.buildSlice 23 1 #[(0, .agg #[.int .i64 c.c, .int .i64 c.q, .int .i64 c.v])]).run Tryd.prog w = .ok (.slice (some ⟨w.heap.size, 0, none⟩) 1 1) (w.alloc (.cells #[.int .i64 c.c, .int .i64 c.q, .int .i64 c.v] 82)) := by
  have hu := Tryd.underlying23
  have hz := Tryd.zeroValue82
  have hs : (sizeOf 82).run Tryd.prog w = .ok 3 w := by go_simp
  simp [Instr.buildSlice, run_underlying hu, hz, hs, go_sem]

theorem neq_keys (a b : Nat) (ha : a < 18446744073709551616) (hb : b < 18446744073709551616) (w : World) : (binOp .neq 28 (.agg #[.int .u8 (bt (a) 0), .int .u8 (bt (a) 1), .int .u8 (bt (a) 2), .int .u8 (bt (a) 3), .int .u8 (bt (a) 4), .int .u8 (bt (a) 5), .int .u8 (bt (a) 6), .int .u8 (bt (a) 7)]) (.agg #[.int .u8 (bt (b) 0), .int .u8 (bt (b) 1), .int .u8 (bt (b) 2), .int .u8 (bt (b) 3), .int .u8 (bt (b) 4), .int .u8 (bt (b) 5), .int .u8 (bt (b) 6), .int .u8 (bt (b) 7)])).run Tryd.prog w = .ok (.bool (!decide (a = b))) w := by
  have h := eql_key a b 9998 w
  simp only [binOp]
  simp [show Op.equal 28 (.agg #[.int .u8 (bt (a) 0), .int .u8 (bt (a) 1), .int .u8 (bt (a) 2), .int .u8 (bt (a) 3), .int .u8 (bt (a) 4), .int .u8 (bt (a) 5), .int .u8 (bt (a) 6), .int .u8 (bt (a) 7)]) (.agg #[.int .u8 (bt (b) 0), .int .u8 (bt (b) 1), .int .u8 (bt (b) 2), .int .u8 (bt (b) 3), .int .u8 (bt (b) 4), .int .u8 (bt (b) 5), .int .u8 (bt (b) 6), .int .u8 (bt (b) 7)]) = Op.equalIn (9998 + 1 + 1) 28 (.agg #[.int .u8 (bt (a) 0), .int .u8 (bt (a) 1), .int .u8 (bt (a) 2), .int .u8 (bt (a) 3), .int .u8 (bt (a) 4), .int .u8 (bt (a) 5), .int .u8 (bt (a) 6), .int .u8 (bt (a) 7)]) (.agg #[.int .u8 (bt (b) 0), .int .u8 (bt (b) 1), .int .u8 (bt (b) 2), .int .u8 (bt (b) 3), .int .u8 (bt (b) 4), .int .u8 (bt (b) 5), .int .u8 (bt (b) 6), .int .u8 (bt (b) 7)]) from rfl, h, eqBt_dec ha hb]

theorem fold_next {T A : Type} {l : List T} {f : A → T → A} {s : A} {z : T} {k : Nat} (hk : k < l.length) : (l.drop k).foldl f s = (l.drop (k + 1)).foldl f (f s (l.getD k z)) := by
  rw [List.drop_eq_getElem_cons hk, List.foldl_cons, List.getD_eq_getElem?_getD, List.getElem?_eq_getElem hk]
  rfl

end Go.Proofs.YtnbgdkdnlfomeaaDoor.M

namespace Go.Proofs.YtnbgdkdnlfomeaaDoor.M
open Go.ChangeShapes Go.WideShapes Go.ChangeAt Go.RowKit Go.ChangeMaps Go.MapKept Go.Maps Go.Shelf Go.Proofs
set_option linter.unusedSimpArgs false

theorem wpList_buildG {P : Program} {ops : Array Oper} {rest : List Oper} {o : Oper} {a : Act} {w : World} {Q : Exit → Act → World → Prop} (hw : Region.wanted o (yielded ops a.tmps) = true) (t : TypeId) (ps : Array (Nat × Operand)) (ho : o.op = .build t ps)
    (us : Array (Nat × Value)) (hx : (ps.map fun (i, x) => (i, a.eval x)) = us) (v : Value) (hrun : (Instr.build t us).run P w = .ok v w)
    (h : wpList P ops Q rest (a.put o.dst v) w) : wpList P ops Q (o :: rest) a w :=
  wpList_step fun K hK => by
    rw [if_pos hw]
    refine wp_value v w ?_ (hK _ _ h)
    subst hx
    simp only [ho, execOp]
    clear h hK
    generalize Instr.build t (ps.map fun (i, x) => (i, a.eval x)) = I at *
    simp [go_sem, hrun, Result.andThen]

theorem bld_ce (k : Nat) (v : Int) (s : ByteArray) (w : World) : (Instr.build 53 #[(0, .agg #[.int .u8 (bt (k) 0), .int .u8 (bt (k) 1), .int .u8 (bt (k) 2), .int .u8 (bt (k) 3), .int .u8 (bt (k) 4), .int .u8 (bt (k) 5), .int .u8 (bt (k) 6), .int .u8 (bt (k) 7)]), (1, .int .i64 v), (2, .string s)]).run Tryd.prog w = .ok (.agg #[.int .u8 (bt (Ce.mk k v s).k 0), .int .u8 (bt (Ce.mk k v s).k 1), .int .u8 (bt (Ce.mk k v s).k 2), .int .u8 (bt (Ce.mk k v s).k 3), .int .u8 (bt (Ce.mk k v s).k 4), .int .u8 (bt (Ce.mk k v s).k 5), .int .u8 (bt (Ce.mk k v s).k 6), .int .u8 (bt (Ce.mk k v s).k 7), .int .i64 (Ce.mk k v s).v, .string (Ce.mk k v s).s]) w := by
  kernel_rfl

set_option maxRecDepth 20000 in
set_option maxHeartbeats 8000000 in
theorem rPut_any {w : World} {ix ep : Int} {cp : Option Addr} {cn cc : Nat} {C : List Ce} {dp : Option Addr} {dn dc : Nat} {D : List Dn} (hC : RdG celS w cp cn cc C) (hD : RdG donS w dp dn dc D) (hcn : cn ≤ 100) (hdn : dn ≤ 100) (hck : ∀ c ∈ C, c.k < 18446744073709551616) (xi xe : Int) (xk : Nat) (xv : Int) (xs : ByteArray) (xc xq : Int) (hxk : xk < 18446744073709551616) :
    Calls Tryd.prog 56 #[.agg #[.int .i64 ix, .int .i64 ep, .slice cp cn cc, .slice dp dn dc], .agg #[.int .i64 (Rc.mk xi xe xk xv xs xc xq).ix, .int .i64 (Rc.mk xi xe xk xv xs xc xq).ep, .int .u8 (bt (Rc.mk xi xe xk xv xs xc xq).k 0), .int .u8 (bt (Rc.mk xi xe xk xv xs xc xq).k 1), .int .u8 (bt (Rc.mk xi xe xk xv xs xc xq).k 2), .int .u8 (bt (Rc.mk xi xe xk xv xs xc xq).k 3), .int .u8 (bt (Rc.mk xi xe xk xv xs xc xq).k 4), .int .u8 (bt (Rc.mk xi xe xk xv xs xc xq).k 5), .int .u8 (bt (Rc.mk xi xe xk xv xs xc xq).k 6), .int .u8 (bt (Rc.mk xi xe xk xv xs xc xq).k 7), .int .i64 (Rc.mk xi xe xk xv xs xc xq).v, .string (Rc.mk xi xe xk xv xs xc xq).s, .int .i64 (Rc.mk xi xe xk xv xs xc xq).c, .int .i64 (Rc.mk xi xe xk xv xs xc xq).q]] w fun e w' => ∃ p' c' q' d', e = .returned (.agg #[.int .i64 xi, .int .i64 xe, .slice p' (putT C (Ce.mk xk xv xs)).length c', .slice q' (putD D (Rc.mk xi xe xk xv xs xc xq) 4).length d']) ∧ OwG celS 53 w' w.heap.size p' (putT C (Ce.mk xk xv xs)).length c' (putT C (Ce.mk xk xv xs)) ∧ OwG donS 82 w' w.heap.size q' (putD D (Rc.mk xi xe xk xv xs xc xq) 4).length d' (putD D (Rc.mk xi xe xk xv xs xc xq) 4) ∧ Below w.heap.size w w' := by
  have hPT0 : PT w #[.int .i64 ix, .int .i64 ep, .slice cp cn cc, .slice dp dn dc] (Rc.mk xi xe xk xv xs xc xq) none 0 0 [] none 0 0 [] ((((w.alloc (.cells #[.int .i64 ix, .int .i64 ep, .slice cp cn cc, .slice dp dn dc] 25)).alloc (.cells #[.int .i64 (Rc.mk xi xe xk xv xs xc xq).ix, .int .i64 (Rc.mk xi xe xk xv xs xc xq).ep, .int .u8 (bt (Rc.mk xi xe xk xv xs xc xq).k 0), .int .u8 (bt (Rc.mk xi xe xk xv xs xc xq).k 1), .int .u8 (bt (Rc.mk xi xe xk xv xs xc xq).k 2), .int .u8 (bt (Rc.mk xi xe xk xv xs xc xq).k 3), .int .u8 (bt (Rc.mk xi xe xk xv xs xc xq).k 4), .int .u8 (bt (Rc.mk xi xe xk xv xs xc xq).k 5), .int .u8 (bt (Rc.mk xi xe xk xv xs xc xq).k 6), .int .u8 (bt (Rc.mk xi xe xk xv xs xc xq).k 7), .int .i64 (Rc.mk xi xe xk xv xs xc xq).v, .string (Rc.mk xi xe xk xv xs xc xq).s, .int .i64 (Rc.mk xi xe xk xv xs xc xq).c, .int .i64 (Rc.mk xi xe xk xv xs xc xq).q] 64)).alloc (.cells #[.int .i64 0, .int .i64 0, .slice none 0 0, .slice none 0 0] 25)).alloc (.cells #[.int .i64 xi, .int .i64 xe, .slice none 0 0, .slice none 0 0] 25)) := by
    have s1 : (w.alloc (.cells #[.int .i64 ix, .int .i64 ep, .slice cp cn cc, .slice dp dn dc] 25)).heap.size = w.heap.size + 1 := by simp
    have s2 : ((w.alloc (.cells #[.int .i64 ix, .int .i64 ep, .slice cp cn cc, .slice dp dn dc] 25)).alloc (.cells #[.int .i64 (Rc.mk xi xe xk xv xs xc xq).ix, .int .i64 (Rc.mk xi xe xk xv xs xc xq).ep, .int .u8 (bt (Rc.mk xi xe xk xv xs xc xq).k 0), .int .u8 (bt (Rc.mk xi xe xk xv xs xc xq).k 1), .int .u8 (bt (Rc.mk xi xe xk xv xs xc xq).k 2), .int .u8 (bt (Rc.mk xi xe xk xv xs xc xq).k 3), .int .u8 (bt (Rc.mk xi xe xk xv xs xc xq).k 4), .int .u8 (bt (Rc.mk xi xe xk xv xs xc xq).k 5), .int .u8 (bt (Rc.mk xi xe xk xv xs xc xq).k 6), .int .u8 (bt (Rc.mk xi xe xk xv xs xc xq).k 7), .int .i64 (Rc.mk xi xe xk xv xs xc xq).v, .string (Rc.mk xi xe xk xv xs xc xq).s, .int .i64 (Rc.mk xi xe xk xv xs xc xq).c, .int .i64 (Rc.mk xi xe xk xv xs xc xq).q] 64)).heap.size = w.heap.size + 1 + 1 := by simp
    have s3 : (((w.alloc (.cells #[.int .i64 ix, .int .i64 ep, .slice cp cn cc, .slice dp dn dc] 25)).alloc (.cells #[.int .i64 (Rc.mk xi xe xk xv xs xc xq).ix, .int .i64 (Rc.mk xi xe xk xv xs xc xq).ep, .int .u8 (bt (Rc.mk xi xe xk xv xs xc xq).k 0), .int .u8 (bt (Rc.mk xi xe xk xv xs xc xq).k 1), .int .u8 (bt (Rc.mk xi xe xk xv xs xc xq).k 2), .int .u8 (bt (Rc.mk xi xe xk xv xs xc xq).k 3), .int .u8 (bt (Rc.mk xi xe xk xv xs xc xq).k 4), .int .u8 (bt (Rc.mk xi xe xk xv xs xc xq).k 5), .int .u8 (bt (Rc.mk xi xe xk xv xs xc xq).k 6), .int .u8 (bt (Rc.mk xi xe xk xv xs xc xq).k 7), .int .i64 (Rc.mk xi xe xk xv xs xc xq).v, .string (Rc.mk xi xe xk xv xs xc xq).s, .int .i64 (Rc.mk xi xe xk xv xs xc xq).c, .int .i64 (Rc.mk xi xe xk xv xs xc xq).q] 64)).alloc (.cells #[.int .i64 0, .int .i64 0, .slice none 0 0, .slice none 0 0] 25)).heap.size = w.heap.size + 1 + 1 + 1 := by simp
    refine ⟨((((Below.refl _ w).alloc (Nat.le_refl _) _).alloc (by omega) _).alloc (by omega) _).alloc (by omega) _, (((At.new _ w _).alloc _).alloc _).alloc _, ?_, ?_, ?_, OwG.none _ _ _ _, OwG.none _ _ _ _, (fun k h => absurd h.1 (Nat.lt_irrefl _)), by simp⟩
    · rw [← s1]; exact ((At.new _ _ _).alloc _).alloc _
    · rw [← s2]; exact (At.new _ _ _).alloc _
    · rw [← s3]; exact At.new _ _ _
  have HPT : Hid (PT w #[.int .i64 ix, .int .i64 ep, .slice cp cn cc, .slice dp dn dc] (Rc.mk xi xe xk xv xs xc xq) none 0 0 [] none 0 0 [] ((((w.alloc (.cells #[.int .i64 ix, .int .i64 ep, .slice cp cn cc, .slice dp dn dc] 25)).alloc (.cells #[.int .i64 (Rc.mk xi xe xk xv xs xc xq).ix, .int .i64 (Rc.mk xi xe xk xv xs xc xq).ep, .int .u8 (bt (Rc.mk xi xe xk xv xs xc xq).k 0), .int .u8 (bt (Rc.mk xi xe xk xv xs xc xq).k 1), .int .u8 (bt (Rc.mk xi xe xk xv xs xc xq).k 2), .int .u8 (bt (Rc.mk xi xe xk xv xs xc xq).k 3), .int .u8 (bt (Rc.mk xi xe xk xv xs xc xq).k 4), .int .u8 (bt (Rc.mk xi xe xk xv xs xc xq).k 5), .int .u8 (bt (Rc.mk xi xe xk xv xs xc xq).k 6), .int .u8 (bt (Rc.mk xi xe xk xv xs xc xq).k 7), .int .i64 (Rc.mk xi xe xk xv xs xc xq).v, .string (Rc.mk xi xe xk xv xs xc xq).s, .int .i64 (Rc.mk xi xe xk xv xs xc xq).c, .int .i64 (Rc.mk xi xe xk xv xs xc xq).q] 64)).alloc (.cells #[.int .i64 0, .int .i64 0, .slice none 0 0, .slice none 0 0] 25)).alloc (.cells #[.int .i64 xi, .int .i64 xe, .slice none 0 0, .slice none 0 0] 25))) := hPT0
  clear hPT0
  go_enter Tryd.func56, Tryd.ntmps56
  go_wp2_with fail
  have hPT := HPT.out
  clear HPT
  generalize ((((w.alloc (.cells #[.int .i64 ix, .int .i64 ep, .slice cp cn cc, .slice dp dn dc] 25)).alloc (.cells #[.int .i64 (Rc.mk xi xe xk xv xs xc xq).ix, .int .i64 (Rc.mk xi xe xk xv xs xc xq).ep, .int .u8 (bt (Rc.mk xi xe xk xv xs xc xq).k 0), .int .u8 (bt (Rc.mk xi xe xk xv xs xc xq).k 1), .int .u8 (bt (Rc.mk xi xe xk xv xs xc xq).k 2), .int .u8 (bt (Rc.mk xi xe xk xv xs xc xq).k 3), .int .u8 (bt (Rc.mk xi xe xk xv xs xc xq).k 4), .int .u8 (bt (Rc.mk xi xe xk xv xs xc xq).k 5), .int .u8 (bt (Rc.mk xi xe xk xv xs xc xq).k 6), .int .u8 (bt (Rc.mk xi xe xk xv xs xc xq).k 7), .int .i64 (Rc.mk xi xe xk xv xs xc xq).v, .string (Rc.mk xi xe xk xv xs xc xq).s, .int .i64 (Rc.mk xi xe xk xv xs xc xq).c, .int .i64 (Rc.mk xi xe xk xv xs xc xq).q] 64)).alloc (.cells #[.int .i64 0, .int .i64 0, .slice none 0 0, .slice none 0 0] 25)).alloc (.cells #[.int .i64 xi, .int .i64 xe, .slice none 0 0, .slice none 0 0] 25)) = V0 at *
  have hHC : Hid (C.foldl (stT (Ce.mk xk xv xs)) (false, []) = (C.drop 0).foldl (stT (Ce.mk xk xv xs)) (false, [])) := rfl
  go_loopw [20, 6] (fun i b wr => ∃ (k : Nat) (pt : Bool) (p : Option Addr) (n c : Nat) (out : List Ce), k ≤ cn ∧ i = .int .i64 k ∧ b = .bool pt ∧ PT w #[.int .i64 ix, .int .i64 ep, .slice cp cn cc, .slice dp dn dc] (Rc.mk xi xe xk xv xs xc xq) p n c out none 0 0 [] wr ∧ Hid (C.foldl (stT (Ce.mk xk xv xs)) (false, []) = (C.drop k).foldl (stT (Ce.mk xk xv xs)) (pt, out)) ∧ n ≤ 2 * k) (fun i _ _ => cn - (intOf i).toNat)
  case atStart => exact ⟨0, false, none, 0, 0, [], Nat.zero_le _, rfl, rfl, hPT, hHC, by omega⟩
  case round =>
    clear hPT hHC
    obtain ⟨k, pt, p, n, c, out, hk, rfl, rfl, hP, HF, hn⟩ := hrel
    by_cases hkn : k < cn
    · as_aux_lemma =>
      have hki : (k : Int) < (cn : Int) := by omega
      obtain ⟨bb, o, rfl, _⟩ := hC.at (by omega)
      have hkl : k < C.length := by rw [hC.len]; exact hkn
      have hrk := hC.rangeB hP.bel hkn
      have hyk := hck (C.getD k celS.z) (by rw [List.getD_eq_getElem?_getD, List.getElem?_eq_getElem hkl]; exact List.getElem_mem hkl)
      have HN : Hid (∀ st, stT (Ce.mk xk xv xs) (pt, out) (C.getD k celS.z) = st → C.foldl (stT (Ce.mk xk xv xs)) (false, []) = (C.drop (k + 1)).foldl (stT (Ce.mk xk xv xs)) st) := fun st e => by rw [HF.out, fold_next hkl, e]
      clear HF hkl hD hdn
      have hrk' : wr.rangeAt bb (o + k * 10) [.int .u8 (bt (C.getD k celS.z).k 0), .int .u8 (bt (C.getD k celS.z).k 1), .int .u8 (bt (C.getD k celS.z).k 2), .int .u8 (bt (C.getD k celS.z).k 3), .int .u8 (bt (C.getD k celS.z).k 4), .int .u8 (bt (C.getD k celS.z).k 5), .int .u8 (bt (C.getD k celS.z).k 6), .int .u8 (bt (C.getD k celS.z).k 7), .int .i64 (C.getD k celS.z).v, .string (C.getD k celS.z).s] := hrk
      clear hrk
      generalize C.getD k celS.z = cy at *
      obtain ⟨yk, yv, ys⟩ := cy
      dsimp only at hyk hrk'
      have hX0 := At.new 53 wr #[.int .u8 0, .int .u8 0, .int .u8 0, .int .u8 0, .int .u8 0, .int .u8 0, .int .u8 0, .int .u8 0, .int .i64 0, .string ⟨#[]⟩]
      have hXr := hX0.row #[.int .u8 (bt (Ce.mk yk yv ys).k 0), .int .u8 (bt (Ce.mk yk yv ys).k 1), .int .u8 (bt (Ce.mk yk yv ys).k 2), .int .u8 (bt (Ce.mk yk yv ys).k 3), .int .u8 (bt (Ce.mk yk yv ys).k 4), .int .u8 (bt (Ce.mk yk yv ys).k 5), .int .u8 (bt (Ce.mk yk yv ys).k 6), .int .u8 (bt (Ce.mk yk yv ys).k 7), .int .i64 (Ce.mk yk yv ys).v, .string (Ce.mk yk yv ys).s]
      have hba : Below wr.heap.size wr ((wr.alloc (.cells #[.int .u8 0, .int .u8 0, .int .u8 0, .int .u8 0, .int .u8 0, .int .u8 0, .int .u8 0, .int .u8 0, .int .i64 0, .string ⟨#[]⟩] 53)).setRow wr.heap.size #[.int .u8 (bt (Ce.mk yk yv ys).k 0), .int .u8 (bt (Ce.mk yk yv ys).k 1), .int .u8 (bt (Ce.mk yk yv ys).k 2), .int .u8 (bt (Ce.mk yk yv ys).k 3), .int .u8 (bt (Ce.mk yk yv ys).k 4), .int .u8 (bt (Ce.mk yk yv ys).k 5), .int .u8 (bt (Ce.mk yk yv ys).k 6), .int .u8 (bt (Ce.mk yk yv ys).k 7), .int .i64 (Ce.mk yk yv ys).v, .string (Ce.mk yk yv ys).s]) := (below_alloc' wr (.cells #[.int .u8 0, .int .u8 0, .int .u8 0, .int .u8 0, .int .u8 0, .int .u8 0, .int .u8 0, .int .u8 0, .int .i64 0, .string ⟨#[]⟩] 53)).trans (below_setRow _ _ _ (Nat.le_refl _))
      have hP1 := hP.below hba
      have hbx : wr.heap.size < ((wr.alloc (.cells #[.int .u8 0, .int .u8 0, .int .u8 0, .int .u8 0, .int .u8 0, .int .u8 0, .int .u8 0, .int .u8 0, .int .i64 0, .string ⟨#[]⟩] 53)).setRow wr.heap.size #[.int .u8 (bt (Ce.mk yk yv ys).k 0), .int .u8 (bt (Ce.mk yk yv ys).k 1), .int .u8 (bt (Ce.mk yk yv ys).k 2), .int .u8 (bt (Ce.mk yk yv ys).k 3), .int .u8 (bt (Ce.mk yk yv ys).k 4), .int .u8 (bt (Ce.mk yk yv ys).k 5), .int .u8 (bt (Ce.mk yk yv ys).k 6), .int .u8 (bt (Ce.mk yk yv ys).k 7), .int .i64 (Ce.mk yk yv ys).v, .string (Ce.mk yk yv ys).s]).heap.size := At.lt hXr
      have hnm : ¬ mine p c wr.heap.size := fun e => by have := (hP.oc.lt e).2; omega
      have hg5 : wr.heap.size ≠ w.heap.size + 1 + 1 + 1 := by have := hP.sz; omega
      have hNq := fun W => neq_keys yk xk hyk hxk W
      have hLs := fun W => rLess_any hyk hxk W
      dsimp only at hXr hba hP1 hbx

      have y0 := At.cell hXr 0
      have y1 := At.cell hXr 1
      have y2 := At.cell hXr 2
      have y3 := At.cell hXr 3
      have y4 := At.cell hXr 4
      have y5 := At.cell hXr 5
      have y6 := At.cell hXr 6
      have y7 := At.cell hXr 7
      simp only [List.getElem?_toArray, List.getElem?_cons_zero, List.getElem?_cons_succ] at y0 y1 y2 y3 y4 y5 y6 y7
      have u2 := At.cell hP1.b3 2
      have u3 := At.cell hP1.b3 3
      have u4 := At.cell hP1.b3 4
      have u5 := At.cell hP1.b3 5
      have u6 := At.cell hP1.b3 6
      have u7 := At.cell hP1.b3 7
      have u8 := At.cell hP1.b3 8
      have u9 := At.cell hP1.b3 9
      simp only [List.getElem?_toArray, List.getElem?_cons_zero, List.getElem?_cons_succ] at u2 u3 u4 u5 u6 u7 u8 u9
      have z2 := At.cell hP1.b5 2
      simp only [List.getElem?_toArray, List.getElem?_cons_zero, List.getElem?_cons_succ] at z2
      clear hba hP
      have HXr : Hid (At 53 ((wr.alloc (.cells #[.int .u8 0, .int .u8 0, .int .u8 0, .int .u8 0, .int .u8 0, .int .u8 0, .int .u8 0, .int .u8 0, .int .i64 0, .string ⟨#[]⟩] 53)).setRow wr.heap.size #[.int .u8 (bt (Ce.mk yk yv ys).k 0), .int .u8 (bt (Ce.mk yk yv ys).k 1), .int .u8 (bt (Ce.mk yk yv ys).k 2), .int .u8 (bt (Ce.mk yk yv ys).k 3), .int .u8 (bt (Ce.mk yk yv ys).k 4), .int .u8 (bt (Ce.mk yk yv ys).k 5), .int .u8 (bt (Ce.mk yk yv ys).k 6), .int .u8 (bt (Ce.mk yk yv ys).k 7), .int .i64 (Ce.mk yk yv ys).v, .string (Ce.mk yk yv ys).s]) wr.heap.size #[.int .u8 (bt (Ce.mk yk yv ys).k 0), .int .u8 (bt (Ce.mk yk yv ys).k 1), .int .u8 (bt (Ce.mk yk yv ys).k 2), .int .u8 (bt (Ce.mk yk yv ys).k 3), .int .u8 (bt (Ce.mk yk yv ys).k 4), .int .u8 (bt (Ce.mk yk yv ys).k 5), .int .u8 (bt (Ce.mk yk yv ys).k 6), .int .u8 (bt (Ce.mk yk yv ys).k 7), .int .i64 (Ce.mk yk yv ys).v, .string (Ce.mk yk yv ys).s]) := hXr
      cases pt with
      | true =>
        clear hLs
        by_cases heq : yk = xk
        · as_aux_lemma =>
          have hde : (!decide (yk = xk)) = false := by simp [heq]
          rw [hde] at hNq
          have HN2 := HN.out (true, out) (by unfold stT; rw [if_neg (by simp), if_neg (fun e => e heq)])
          have HNh : Hid (C.foldl (stT (Ce.mk xk xv xs)) (false, []) = _) := HN2
          clear HN HN2 hXr z2 heq hde HXr
          go_wp2_with (first | refine wpList_load_mid rfl 53 _ rfl bb (o + k * 10) rfl _ _ hrk' Tryd.underlying53 rfl infoCe ?_ | (refine wpList_store_row rfl 53 _ _ rfl wr.heap.size #[.int .u8 (bt (Ce.mk yk yv ys).k 0), .int .u8 (bt (Ce.mk yk yv ys).k 1), .int .u8 (bt (Ce.mk yk yv ys).k 2), .int .u8 (bt (Ce.mk yk yv ys).k 3), .int .u8 (bt (Ce.mk yk yv ys).k 4), .int .u8 (bt (Ce.mk yk yv ys).k 5), .int .u8 (bt (Ce.mk yk yv ys).k 6), .int .u8 (bt (Ce.mk yk yv ys).k 7), .int .i64 (Ce.mk yk yv ys).v, .string (Ce.mk yk yv ys).s] rfl rfl _ _ hX0 infoCe rfl (by simp [Value.oneCell']) ?_; generalize ((wr.alloc (.cells #[.int .u8 0, .int .u8 0, .int .u8 0, .int .u8 0, .int .u8 0, .int .u8 0, .int .u8 0, .int .u8 0, .int .i64 0, .string ⟨#[]⟩] 53)).setRow wr.heap.size #[.int .u8 (bt (Ce.mk yk yv ys).k 0), .int .u8 (bt (Ce.mk yk yv ys).k 1), .int .u8 (bt (Ce.mk yk yv ys).k 2), .int .u8 (bt (Ce.mk yk yv ys).k 3), .int .u8 (bt (Ce.mk yk yv ys).k 4), .int .u8 (bt (Ce.mk yk yv ys).k 5), .int .u8 (bt (Ce.mk yk yv ys).k 6), .int .u8 (bt (Ce.mk yk yv ys).k 7), .int .i64 (Ce.mk yk yv ys).v, .string (Ce.mk yk yv ys).s]) = wx at *))
          exact ⟨⟨k + 1, true, p, n, c, out, by omega, by go_num, rfl, hP1, HNh, by omega⟩, by simp [intOf]; omega⟩
        · as_aux_lemma =>
          have hde : (!decide (yk = xk)) = true := by simp [heq]
          rw [hde] at hNq
          have HN2 := HN.out (true, out ++ [Ce.mk yk yv ys]) (by unfold stT; rw [if_neg (by simp), if_pos heq])
          have HNh : Hid (C.foldl (stT (Ce.mk xk xv xs)) (false, []) = _) := HN2
          obtain ⟨p9, c9, w9, hrun, kc, fc, hP9, _⟩ := hP1.appC (Ce.mk yk yv ys) (by omega)
          clear HN HN2 heq hde HXr
          go_wp2_with (first | refine wpList_load_mid rfl 53 _ rfl bb (o + k * 10) rfl _ _ hrk' Tryd.underlying53 rfl infoCe ?_ | (refine wpList_store_row rfl 53 _ _ rfl wr.heap.size #[.int .u8 (bt (Ce.mk yk yv ys).k 0), .int .u8 (bt (Ce.mk yk yv ys).k 1), .int .u8 (bt (Ce.mk yk yv ys).k 2), .int .u8 (bt (Ce.mk yk yv ys).k 3), .int .u8 (bt (Ce.mk yk yv ys).k 4), .int .u8 (bt (Ce.mk yk yv ys).k 5), .int .u8 (bt (Ce.mk yk yv ys).k 6), .int .u8 (bt (Ce.mk yk yv ys).k 7), .int .i64 (Ce.mk yk yv ys).v, .string (Ce.mk yk yv ys).s] rfl rfl _ _ hX0 infoCe rfl (by simp [Value.oneCell']) ?_; generalize ((wr.alloc (.cells #[.int .u8 0, .int .u8 0, .int .u8 0, .int .u8 0, .int .u8 0, .int .u8 0, .int .u8 0, .int .u8 0, .int .i64 0, .string ⟨#[]⟩] 53)).setRow wr.heap.size #[.int .u8 (bt (Ce.mk yk yv ys).k 0), .int .u8 (bt (Ce.mk yk yv ys).k 1), .int .u8 (bt (Ce.mk yk yv ys).k 2), .int .u8 (bt (Ce.mk yk yv ys).k 3), .int .u8 (bt (Ce.mk yk yv ys).k 4), .int .u8 (bt (Ce.mk yk yv ys).k 5), .int .u8 (bt (Ce.mk yk yv ys).k 6), .int .u8 (bt (Ce.mk yk yv ys).k 7), .int .i64 (Ce.mk yk yv ys).v, .string (Ce.mk yk yv ys).s]) = wx at *) | refine wpList_load_row rfl 53 _ rfl wr.heap.size rfl _ _ _ _ hXr Tryd.underlying53 rfl infoCe ?_ | refine wpList_bslG rfl 22 1 0 _ rfl (.agg #[.int .u8 (bt (Ce.mk yk yv ys).k 0), .int .u8 (bt (Ce.mk yk yv ys).k 1), .int .u8 (bt (Ce.mk yk yv ys).k 2), .int .u8 (bt (Ce.mk yk yv ys).k 3), .int .u8 (bt (Ce.mk yk yv ys).k 4), .int .u8 (bt (Ce.mk yk yv ys).k 5), .int .u8 (bt (Ce.mk yk yv ys).k 6), .int .u8 (bt (Ce.mk yk yv ys).k 7), .int .i64 (Ce.mk yk yv ys).v, .string (Ce.mk yk yv ys).s]) rfl _ _ (bsl_ce (Ce.mk yk yv ys) _) ?_ | refine wpList_app_run rfl (.tmp 52) (.tmp 54) 22 rfl (.slice p n c) (.slice (some ⟨wx.heap.size, 0, none⟩) 1 1) (by go_simp) (by go_simp) hrun ?_)
          exact ⟨⟨k + 1, true, p9, n + 1, c9, _, by omega, by go_num, rfl, hP9, HNh, by omega⟩, by simp [intOf]; omega⟩
      | false =>
        by_cases hlt : yk < xk
        · as_aux_lemma =>
          obtain ⟨gx, hgx⟩ : ∃ gx, gx = wr.heap.size := ⟨_, rfl⟩
          have HGX : Hid (wr.heap.size = gx) := hgx.symm
          clear hgx
          have hW := hLs ((wr.alloc (.cells #[.int .u8 0, .int .u8 0, .int .u8 0, .int .u8 0, .int .u8 0, .int .u8 0, .int .u8 0, .int .u8 0, .int .i64 0, .string ⟨#[]⟩] 53)).setRow wr.heap.size #[.int .u8 (bt (Ce.mk yk yv ys).k 0), .int .u8 (bt (Ce.mk yk yv ys).k 1), .int .u8 (bt (Ce.mk yk yv ys).k 2), .int .u8 (bt (Ce.mk yk yv ys).k 3), .int .u8 (bt (Ce.mk yk yv ys).k 4), .int .u8 (bt (Ce.mk yk yv ys).k 5), .int .u8 (bt (Ce.mk yk yv ys).k 6), .int .u8 (bt (Ce.mk yk yv ys).k 7), .int .i64 (Ce.mk yk yv ys).v, .string (Ce.mk yk yv ys).s])
          rw [show decide (yk < xk) = true from by simp [hlt]] at hW
          clear z2 HXr
          go_wp2_with (first | refine wpList_load_mid rfl 53 _ rfl bb (o + k * 10) rfl _ _ hrk' Tryd.underlying53 rfl infoCe ?_ | refine wpList_store_row rfl 53 _ _ rfl wr.heap.size #[.int .u8 (bt (Ce.mk yk yv ys).k 0), .int .u8 (bt (Ce.mk yk yv ys).k 1), .int .u8 (bt (Ce.mk yk yv ys).k 2), .int .u8 (bt (Ce.mk yk yv ys).k 3), .int .u8 (bt (Ce.mk yk yv ys).k 4), .int .u8 (bt (Ce.mk yk yv ys).k 5), .int .u8 (bt (Ce.mk yk yv ys).k 6), .int .u8 (bt (Ce.mk yk yv ys).k 7), .int .i64 (Ce.mk yk yv ys).v, .string (Ce.mk yk yv ys).s] rfl rfl _ _ hX0 infoCe rfl (by simp [Value.oneCell']) ?_)
          refine hW.mono ?_
          rintro e w8 ⟨rfl, hb8⟩
          clear hW hLs hrk' hX0 y0 y1 y2 y3 y4 y5 y6 y7 u2 u3 u4 u5 u6 u7 u8 u9
          rw [HGX.out] at hXr hbx hnm hg5 hP1 hb8
          replace hP1 := hP1.below hb8
          replace hXr := hXr.below hb8
          have hgx8 : gx < w8.heap.size := At.lt hXr
          clear hb8 hbx
          have hne : ¬ yk = xk := Nat.ne_of_lt hlt
          have hde : (!decide (yk = xk)) = true := by simp [hne]
          rw [hde] at hNq
          have HN2 := HN.out (false, out ++ [Ce.mk yk yv ys]) (by unfold stT; rw [if_neg (fun e => e.2 hlt), if_pos hne])
          have HNh : Hid (C.foldl (stT (Ce.mk xk xv xs)) (false, []) = _) := HN2
          have y0 := At.cell hXr 0
          have y1 := At.cell hXr 1
          have y2 := At.cell hXr 2
          have y3 := At.cell hXr 3
          have y4 := At.cell hXr 4
          have y5 := At.cell hXr 5
          have y6 := At.cell hXr 6
          have y7 := At.cell hXr 7
          simp only [List.getElem?_toArray, List.getElem?_cons_zero, List.getElem?_cons_succ] at y0 y1 y2 y3 y4 y5 y6 y7
          have u2 := At.cell hP1.b3 2
          have u3 := At.cell hP1.b3 3
          have u4 := At.cell hP1.b3 4
          have u5 := At.cell hP1.b3 5
          have u6 := At.cell hP1.b3 6
          have u7 := At.cell hP1.b3 7
          have u8 := At.cell hP1.b3 8
          have u9 := At.cell hP1.b3 9
          simp only [List.getElem?_toArray, List.getElem?_cons_zero, List.getElem?_cons_succ] at u2 u3 u4 u5 u6 u7 u8 u9
          have z2 := At.cell hP1.b5 2
          simp only [List.getElem?_toArray, List.getElem?_cons_zero, List.getElem?_cons_succ] at z2
          obtain ⟨p9, c9, w9, hrun, kc, fc, hP9, _⟩ := hP1.appC (Ce.mk yk yv ys) (by omega)
          clear HN HN2 hde hlt hne
          rw [HGX.out]
          go_wp2_with (first | refine wpList_load_row rfl 53 _ rfl gx rfl _ _ _ _ hXr Tryd.underlying53 rfl infoCe ?_ | refine wpList_bslG rfl 22 1 0 _ rfl (.agg #[.int .u8 (bt (Ce.mk yk yv ys).k 0), .int .u8 (bt (Ce.mk yk yv ys).k 1), .int .u8 (bt (Ce.mk yk yv ys).k 2), .int .u8 (bt (Ce.mk yk yv ys).k 3), .int .u8 (bt (Ce.mk yk yv ys).k 4), .int .u8 (bt (Ce.mk yk yv ys).k 5), .int .u8 (bt (Ce.mk yk yv ys).k 6), .int .u8 (bt (Ce.mk yk yv ys).k 7), .int .i64 (Ce.mk yk yv ys).v, .string (Ce.mk yk yv ys).s]) rfl _ _ (bsl_ce (Ce.mk yk yv ys) _) ?_ | refine wpList_app_run rfl (.tmp 52) (.tmp 54) 22 rfl (.slice p n c) (.slice (some ⟨w8.heap.size, 0, none⟩) 1 1) (by go_simp) (by go_simp) hrun ?_)
          exact ⟨⟨k + 1, false, p9, n + 1, c9, _, by omega, by go_num, rfl, hP9, HNh, by omega⟩, by simp [intOf]; omega⟩
        · by_cases heq : yk = xk
          · as_aux_lemma =>
            obtain ⟨gx, hgx⟩ : ∃ gx, gx = wr.heap.size := ⟨_, rfl⟩
            have HGX : Hid (wr.heap.size = gx) := hgx.symm
            clear hgx
            have hW := hLs ((wr.alloc (.cells #[.int .u8 0, .int .u8 0, .int .u8 0, .int .u8 0, .int .u8 0, .int .u8 0, .int .u8 0, .int .u8 0, .int .i64 0, .string ⟨#[]⟩] 53)).setRow wr.heap.size #[.int .u8 (bt (Ce.mk yk yv ys).k 0), .int .u8 (bt (Ce.mk yk yv ys).k 1), .int .u8 (bt (Ce.mk yk yv ys).k 2), .int .u8 (bt (Ce.mk yk yv ys).k 3), .int .u8 (bt (Ce.mk yk yv ys).k 4), .int .u8 (bt (Ce.mk yk yv ys).k 5), .int .u8 (bt (Ce.mk yk yv ys).k 6), .int .u8 (bt (Ce.mk yk yv ys).k 7), .int .i64 (Ce.mk yk yv ys).v, .string (Ce.mk yk yv ys).s])
            rw [show decide (yk < xk) = false from by simp [hlt]] at hW
            have HLT : Hid (¬ yk < xk) := hlt
            have HEQ : Hid (yk = xk) := heq
            clear hlt heq
            clear z2 HXr
            go_wp2_with (first | refine wpList_load_mid rfl 53 _ rfl bb (o + k * 10) rfl _ _ hrk' Tryd.underlying53 rfl infoCe ?_ | refine wpList_store_row rfl 53 _ _ rfl wr.heap.size #[.int .u8 (bt (Ce.mk yk yv ys).k 0), .int .u8 (bt (Ce.mk yk yv ys).k 1), .int .u8 (bt (Ce.mk yk yv ys).k 2), .int .u8 (bt (Ce.mk yk yv ys).k 3), .int .u8 (bt (Ce.mk yk yv ys).k 4), .int .u8 (bt (Ce.mk yk yv ys).k 5), .int .u8 (bt (Ce.mk yk yv ys).k 6), .int .u8 (bt (Ce.mk yk yv ys).k 7), .int .i64 (Ce.mk yk yv ys).v, .string (Ce.mk yk yv ys).s] rfl rfl _ _ hX0 infoCe rfl (by simp [Value.oneCell']) ?_)
            refine hW.mono ?_
            rintro e w8 ⟨rfl, hb8⟩
            clear hW hLs hrk' hX0 y0 y1 y2 y3 y4 y5 y6 y7 u2 u3 u4 u5 u6 u7 u8 u9
            rw [HGX.out] at hXr hbx hnm hg5 hP1 hb8
            replace hP1 := hP1.below hb8
            replace hXr := hXr.below hb8
            have hgx8 : gx < w8.heap.size := At.lt hXr
            clear hb8 hbx
            have u2 := At.cell hP1.b3 2
            have u3 := At.cell hP1.b3 3
            have u4 := At.cell hP1.b3 4
            have u5 := At.cell hP1.b3 5
            have u6 := At.cell hP1.b3 6
            have u7 := At.cell hP1.b3 7
            have u8 := At.cell hP1.b3 8
            have u9 := At.cell hP1.b3 9
            have u10 := At.cell hP1.b3 10
            have u11 := At.cell hP1.b3 11
            simp only [List.getElem?_toArray, List.getElem?_cons_zero, List.getElem?_cons_succ] at u2 u3 u4 u5 u6 u7 u8 u9 u10 u11
            have z2 := At.cell hP1.b5 2
            simp only [List.getElem?_toArray, List.getElem?_cons_zero, List.getElem?_cons_succ] at z2
            obtain ⟨p9, c9, w9, hrun, kc, fc, hP9, hkp⟩ := hP1.appC (Ce.mk xk xv xs) (by omega)
            have hXA := At.same hXr (hkp gx hgx8 hg5 hnm)
            rw [HGX.out]
            have hde : (!decide (yk = xk)) = false := by simp [HEQ.out]
            rw [hde] at hNq
            have HN2 := HN.out (true, out ++ [(Ce.mk xk xv xs)]) (by unfold stT; rw [if_pos ⟨rfl, HLT.out⟩, if_neg (fun e => e HEQ.out)])
            have HNh : Hid (C.foldl (stT (Ce.mk xk xv xs)) (false, []) = _) := HN2
            clear hkp hXr HN HN2 hde HEQ HLT
            have y0 := At.cell (hXA) 0
            have y1 := At.cell (hXA) 1
            have y2 := At.cell (hXA) 2
            have y3 := At.cell (hXA) 3
            have y4 := At.cell (hXA) 4
            have y5 := At.cell (hXA) 5
            have y6 := At.cell (hXA) 6
            have y7 := At.cell (hXA) 7
            simp only [List.getElem?_toArray, List.getElem?_cons_zero, List.getElem?_cons_succ] at y0 y1 y2 y3 y4 y5 y6 y7
            have v2 := At.cell (hP9.b3) 2
            have v3 := At.cell (hP9.b3) 3
            have v4 := At.cell (hP9.b3) 4
            have v5 := At.cell (hP9.b3) 5
            have v6 := At.cell (hP9.b3) 6
            have v7 := At.cell (hP9.b3) 7
            have v8 := At.cell (hP9.b3) 8
            have v9 := At.cell (hP9.b3) 9
            simp only [List.getElem?_toArray, List.getElem?_cons_zero, List.getElem?_cons_succ] at v2 v3 v4 v5 v6 v7 v8 v9
            go_wp2_with (first | refine wpList_buildG rfl 53 #[(0, .tmp 37), (1, .tmp 39), (2, .tmp 41)] rfl #[(0, .agg #[.int .u8 (bt (xk) 0), .int .u8 (bt (xk) 1), .int .u8 (bt (xk) 2), .int .u8 (bt (xk) 3), .int .u8 (bt (xk) 4), .int .u8 (bt (xk) 5), .int .u8 (bt (xk) 6), .int .u8 (bt (xk) 7)]), (1, .int .i64 xv), (2, .string xs)] (by go_simp) _ (bld_ce xk xv xs _) ?_ | refine wpList_bslG rfl 22 1 0 _ rfl (.agg #[.int .u8 (bt (Ce.mk xk xv xs).k 0), .int .u8 (bt (Ce.mk xk xv xs).k 1), .int .u8 (bt (Ce.mk xk xv xs).k 2), .int .u8 (bt (Ce.mk xk xv xs).k 3), .int .u8 (bt (Ce.mk xk xv xs).k 4), .int .u8 (bt (Ce.mk xk xv xs).k 5), .int .u8 (bt (Ce.mk xk xv xs).k 6), .int .u8 (bt (Ce.mk xk xv xs).k 7), .int .i64 (Ce.mk xk xv xs).v, .string (Ce.mk xk xv xs).s]) rfl _ _ (bsl_ce (Ce.mk xk xv xs) _) ?_ | refine wpList_app_run rfl (.tmp 35) (.tmp 43) 22 rfl (.slice p n c) (.slice (some ⟨w8.heap.size, 0, none⟩) 1 1) (by go_simp) (by go_simp) hrun ?_)
            exact ⟨⟨k + 1, true, p9, n + 1, c9, _, by omega, by go_num, rfl, hP9, HNh, by omega⟩, by simp [intOf]; omega⟩
          · as_aux_lemma =>
            obtain ⟨gx, hgx⟩ : ∃ gx, gx = wr.heap.size := ⟨_, rfl⟩
            have HGX : Hid (wr.heap.size = gx) := hgx.symm
            clear hgx
            have hW := hLs ((wr.alloc (.cells #[.int .u8 0, .int .u8 0, .int .u8 0, .int .u8 0, .int .u8 0, .int .u8 0, .int .u8 0, .int .u8 0, .int .i64 0, .string ⟨#[]⟩] 53)).setRow wr.heap.size #[.int .u8 (bt (Ce.mk yk yv ys).k 0), .int .u8 (bt (Ce.mk yk yv ys).k 1), .int .u8 (bt (Ce.mk yk yv ys).k 2), .int .u8 (bt (Ce.mk yk yv ys).k 3), .int .u8 (bt (Ce.mk yk yv ys).k 4), .int .u8 (bt (Ce.mk yk yv ys).k 5), .int .u8 (bt (Ce.mk yk yv ys).k 6), .int .u8 (bt (Ce.mk yk yv ys).k 7), .int .i64 (Ce.mk yk yv ys).v, .string (Ce.mk yk yv ys).s])
            rw [show decide (yk < xk) = false from by simp [hlt]] at hW
            have HLT : Hid (¬ yk < xk) := hlt
            have HEQ : Hid (¬ yk = xk) := heq
            clear hlt heq
            clear z2 HXr
            go_wp2_with (first | refine wpList_load_mid rfl 53 _ rfl bb (o + k * 10) rfl _ _ hrk' Tryd.underlying53 rfl infoCe ?_ | refine wpList_store_row rfl 53 _ _ rfl wr.heap.size #[.int .u8 (bt (Ce.mk yk yv ys).k 0), .int .u8 (bt (Ce.mk yk yv ys).k 1), .int .u8 (bt (Ce.mk yk yv ys).k 2), .int .u8 (bt (Ce.mk yk yv ys).k 3), .int .u8 (bt (Ce.mk yk yv ys).k 4), .int .u8 (bt (Ce.mk yk yv ys).k 5), .int .u8 (bt (Ce.mk yk yv ys).k 6), .int .u8 (bt (Ce.mk yk yv ys).k 7), .int .i64 (Ce.mk yk yv ys).v, .string (Ce.mk yk yv ys).s] rfl rfl _ _ hX0 infoCe rfl (by simp [Value.oneCell']) ?_)
            refine hW.mono ?_
            rintro e w8 ⟨rfl, hb8⟩
            clear hW hLs hrk' hX0 y0 y1 y2 y3 y4 y5 y6 y7 u2 u3 u4 u5 u6 u7 u8 u9
            rw [HGX.out] at hXr hbx hnm hg5 hP1 hb8
            replace hP1 := hP1.below hb8
            replace hXr := hXr.below hb8
            have hgx8 : gx < w8.heap.size := At.lt hXr
            clear hb8 hbx
            have u2 := At.cell hP1.b3 2
            have u3 := At.cell hP1.b3 3
            have u4 := At.cell hP1.b3 4
            have u5 := At.cell hP1.b3 5
            have u6 := At.cell hP1.b3 6
            have u7 := At.cell hP1.b3 7
            have u8 := At.cell hP1.b3 8
            have u9 := At.cell hP1.b3 9
            have u10 := At.cell hP1.b3 10
            have u11 := At.cell hP1.b3 11
            simp only [List.getElem?_toArray, List.getElem?_cons_zero, List.getElem?_cons_succ] at u2 u3 u4 u5 u6 u7 u8 u9 u10 u11
            have z2 := At.cell hP1.b5 2
            simp only [List.getElem?_toArray, List.getElem?_cons_zero, List.getElem?_cons_succ] at z2
            obtain ⟨p9, c9, w9, hrun, kc, fc, hP9, hkp⟩ := hP1.appC (Ce.mk xk xv xs) (by omega)
            have hXA := At.same hXr (hkp gx hgx8 hg5 hnm)
            rw [HGX.out]
            have hde : (!decide (yk = xk)) = true := by simp [HEQ.out]
            rw [hde] at hNq
            have HN2 := HN.out (true, out ++ [(Ce.mk xk xv xs)] ++ [(Ce.mk yk yv ys)]) (by unfold stT; rw [if_pos ⟨rfl, HLT.out⟩, if_pos HEQ.out])
            have HNh : Hid (C.foldl (stT (Ce.mk xk xv xs)) (false, []) = _) := HN2
            clear hkp hXr HN HN2 hde HEQ HLT
            obtain ⟨p8, c8, w7, hrun2, kc2, fc2, hP8, _⟩ := hP9.appC (Ce.mk yk yv ys) (by omega)
            have y0 := At.cell (hXA) 0
            have y1 := At.cell (hXA) 1
            have y2 := At.cell (hXA) 2
            have y3 := At.cell (hXA) 3
            have y4 := At.cell (hXA) 4
            have y5 := At.cell (hXA) 5
            have y6 := At.cell (hXA) 6
            have y7 := At.cell (hXA) 7
            simp only [List.getElem?_toArray, List.getElem?_cons_zero, List.getElem?_cons_succ] at y0 y1 y2 y3 y4 y5 y6 y7
            have v2 := At.cell (hP9.b3) 2
            have v3 := At.cell (hP9.b3) 3
            have v4 := At.cell (hP9.b3) 4
            have v5 := At.cell (hP9.b3) 5
            have v6 := At.cell (hP9.b3) 6
            have v7 := At.cell (hP9.b3) 7
            have v8 := At.cell (hP9.b3) 8
            have v9 := At.cell (hP9.b3) 9
            simp only [List.getElem?_toArray, List.getElem?_cons_zero, List.getElem?_cons_succ] at v2 v3 v4 v5 v6 v7 v8 v9
            have t2 := At.cell (hP9.b5) 2
            simp only [List.getElem?_toArray, List.getElem?_cons_zero, List.getElem?_cons_succ] at t2
            go_wp2_with (first | refine wpList_load_row rfl 53 _ rfl gx rfl _ _ _ _ hXA Tryd.underlying53 rfl infoCe ?_ | refine wpList_buildG rfl 53 #[(0, .tmp 37), (1, .tmp 39), (2, .tmp 41)] rfl #[(0, .agg #[.int .u8 (bt (xk) 0), .int .u8 (bt (xk) 1), .int .u8 (bt (xk) 2), .int .u8 (bt (xk) 3), .int .u8 (bt (xk) 4), .int .u8 (bt (xk) 5), .int .u8 (bt (xk) 6), .int .u8 (bt (xk) 7)]), (1, .int .i64 xv), (2, .string xs)] (by go_simp) _ (bld_ce xk xv xs _) ?_ | refine wpList_bslG rfl 22 1 0 _ rfl (.agg #[.int .u8 (bt (Ce.mk xk xv xs).k 0), .int .u8 (bt (Ce.mk xk xv xs).k 1), .int .u8 (bt (Ce.mk xk xv xs).k 2), .int .u8 (bt (Ce.mk xk xv xs).k 3), .int .u8 (bt (Ce.mk xk xv xs).k 4), .int .u8 (bt (Ce.mk xk xv xs).k 5), .int .u8 (bt (Ce.mk xk xv xs).k 6), .int .u8 (bt (Ce.mk xk xv xs).k 7), .int .i64 (Ce.mk xk xv xs).v, .string (Ce.mk xk xv xs).s]) rfl _ _ (bsl_ce (Ce.mk xk xv xs) _) ?_ | refine wpList_bslG rfl 22 1 0 _ rfl (.agg #[.int .u8 (bt (Ce.mk yk yv ys).k 0), .int .u8 (bt (Ce.mk yk yv ys).k 1), .int .u8 (bt (Ce.mk yk yv ys).k 2), .int .u8 (bt (Ce.mk yk yv ys).k 3), .int .u8 (bt (Ce.mk yk yv ys).k 4), .int .u8 (bt (Ce.mk yk yv ys).k 5), .int .u8 (bt (Ce.mk yk yv ys).k 6), .int .u8 (bt (Ce.mk yk yv ys).k 7), .int .i64 (Ce.mk yk yv ys).v, .string (Ce.mk yk yv ys).s]) rfl _ _ (bsl_ce (Ce.mk yk yv ys) _) ?_ | refine wpList_app_run rfl (.tmp 35) (.tmp 43) 22 rfl (.slice p n c) (.slice (some ⟨w8.heap.size, 0, none⟩) 1 1) (by go_simp) (by go_simp) hrun ?_ | refine wpList_app_run rfl (.tmp 52) (.tmp 54) 22 rfl (.slice p9 (n + 1) c9) (.slice (some ⟨(w9.setCell ⟨w.heap.size + 1 + 1 + 1, 2, none⟩ (.slice p9 (n + 1) c9)).heap.size, 0, none⟩) 1 1) (by go_simp) (by go_simp) hrun2 ?_)
            exact ⟨⟨k + 1, true, p8, n + 1 + 1, c8, _, by omega, by go_num, rfl, hP8, HNh, by omega⟩, by simp [intOf]; omega⟩
    · as_aux_lemma =>
      have hki : ¬ (k : Int) < (cn : Int) := by omega
      have hF := HF.out
      rw [List.drop_of_length_le (by rw [hC.len]; omega), List.foldl_nil] at hF
      have hE : putT C (Ce.mk xk xv xs) = endT (Ce.mk xk xv xs) (pt, out) := by unfold putT; rw [hF]
      clear HF hF
      have HE : Hid (putT C (Ce.mk xk xv xs) = endT (Ce.mk xk xv xs) (pt, out)) := hE
      clear hE
      cases pt with
      | true =>
        as_aux_lemma =>
        have hE2 : putT C (Ce.mk xk xv xs) = out := by rw [HE.out]; rfl
        have HE2 : Hid (putT C (Ce.mk xk xv xs) = out) := hE2
        have hP2 := hP
        clear HE hE2 hck hC
        have HP2 : Hid (PT w #[.int .i64 ix, .int .i64 ep, .slice cp cn cc, .slice dp dn dc] (Rc.mk xi xe xk xv xs xc xq) p n c out none 0 0 [] wr) := hP2
        clear hP2 hP
        go_wp2_with fail
        have hP2 := HP2.out
        clear HP2
        go_loopw [72, 9] (fun i b9 wr => ∃ (k : Nat) (q : Option Addr) (m d : Nat), k ≤ 4 ∧ i = .int .i64 k ∧ PT w #[.int .i64 ix, .int .i64 ep, .slice cp cn cc, .slice dp dn dc] (Rc.mk xi xe xk xv xs xc xq) p n c out q m d (putD D (Rc.mk xi xe xk xv xs xc xq) k) wr ∧ m ≤ 101 * k) (fun i _ _ => 4 - (intOf i).toNat)
        case atStart => exact ⟨0, none, 0, 0, Nat.zero_le _, rfl, hP2, Nat.zero_le _⟩
        case round =>
          clear hP2
          obtain ⟨k, q, m, d, hk, rfl, hP, hm⟩ := hrel
          by_cases hk4 : k < 4
          · as_aux_lemma =>
            have hki : (k : Int) < 4 := by omega
            have he1 : putD D (Rc.mk xi xe xk xv xs xc xq) (k + 1) = putD D (Rc.mk xi xe xk xv xs xc xq) k ++ (if (k : Int) = xc then [⟨k, xq, xv⟩] else D.filter fun e => e.c == (k : Int)) := rfl
            have u10 := At.cell hP.b3 10
            have u12 := At.cell hP.b3 12
            have u13 := At.cell hP.b3 13
            simp only [List.getElem?_toArray, List.getElem?_cons_zero, List.getElem?_cons_succ] at u10 u12 u13
            by_cases hkc : (k : Int) = xc
            · as_aux_lemma =>
              rw [if_pos hkc] at he1
              have hkb : ((k : Int) == xc) = true := by simp [hkc]
              have z3 := At.cell hP.b5 3
              simp only [List.getElem?_toArray, List.getElem?_cons_zero, List.getElem?_cons_succ] at z3
              obtain ⟨p9, c9, w9, hrun, kc, fc, hP9, _⟩ := hP.appD (Dn.mk k xq xv) (by omega)
              rw [← he1] at hP9
              clear hkc he1
              go_wp2_with (first | refine wpList_bslG rfl 23 1 0 _ rfl (.agg #[.int .i64 (Dn.mk k xq xv).c, .int .i64 (Dn.mk k xq xv).q, .int .i64 (Dn.mk k xq xv).v]) rfl _ _ (bsl_dn (Dn.mk k xq xv) _) ?_ | refine wpList_app_run rfl (.tmp 81) (.tmp 89) 23 rfl (.slice q m d) (.slice (some ⟨wr.heap.size, 0, none⟩) 1 1) (by go_simp) (by go_simp) hrun ?_)
              exact ⟨⟨k + 1, p9, m + 1, c9, by omega, by go_num, hP9, by omega⟩, by simp [intOf]; omega⟩
            · as_aux_lemma =>
              rw [if_neg hkc] at he1
              have hkb : ((k : Int) == xc) = false := by simpa using hkc
              have HD : Hid (putD D (Rc.mk xi xe xk xv xs xc xq) (k + 1) = putD D (Rc.mk xi xe xk xv xs xc xq) k ++ (D.drop 0).filter fun e => e.c == (k : Int)) := he1
              have HP : Hid (PT w #[.int .i64 ix, .int .i64 ep, .slice cp cn cc, .slice dp dn dc] (Rc.mk xi xe xk xv xs xc xq) p n c out q m d (putD D (Rc.mk xi xe xk xv xs xc xq) k) wr) := hP
              have t3 := At.cell hP.b2 3
              simp only [List.getElem?_toArray, List.getElem?_cons_zero, List.getElem?_cons_succ] at t3
              clear hkc he1 hP
              generalize putD D (Rc.mk xi xe xk xv xs xc xq) k = od0 at *
              obtain ⟨od1, hod1⟩ : ∃ od1, putD D (Rc.mk xi xe xk xv xs xc xq) (k + 1) = od1 := ⟨_, rfl⟩
              rw [hod1] at HD
              have HOD : Hid (putD D (Rc.mk xi xe xk xv xs xc xq) (k + 1) = od1) := hod1
              clear hod1
              go_wp2_with fail
              have hP := HP.out
              clear HP
              go_loopw [95] (fun i wr => ∃ (j : Nat) (q : Option Addr) (m d : Nat) (od : List Dn), j ≤ dn ∧ i = .int .i64 j ∧ PT w #[.int .i64 ix, .int .i64 ep, .slice cp cn cc, .slice dp dn dc] (Rc.mk xi xe xk xv xs xc xq) p n c out q m d od wr ∧ Hid (od1 = od ++ (D.drop j).filter fun e => e.c == (k : Int)) ∧ m ≤ 101 * k + j) (fun i _ => dn - (intOf i).toNat)
              case atStart => exact ⟨0, q, m, d, od0, Nat.zero_le _, rfl, hP, HD, by omega⟩
              case round =>
                clear hP HD hm
                obtain ⟨j, q, m, d, od, hj, rfl, hP, HD, hm⟩ := hrel
                by_cases hjn : j < dn
                · as_aux_lemma =>
                  have hji : (j : Int) < (dn : Int) := by omega
                  obtain ⟨bb, o, rfl, _⟩ := hD.at (by omega)
                  have hjl : j < D.length := by rw [hD.len]; exact hjn
                  have hrk := hD.rangeB hP.bel hjn
                  have hgd : D.drop j = D.getD j donS.z :: D.drop (j + 1) := by rw [List.drop_eq_getElem_cons hjl, List.getD_eq_getElem?_getD, List.getElem?_eq_getElem hjl]; rfl
                  have HDn := HD.out
                  rw [hgd, List.filter_cons] at HDn
                  have hrk' : wr.rangeAt bb (o + j * 3) [.int .i64 (D.getD j donS.z).c, .int .i64 (D.getD j donS.z).q, .int .i64 (D.getD j donS.z).v] := hrk
                  clear hrk hgd HD
                  generalize D.getD j donS.z = cy at *
                  obtain ⟨yc, yq, yv⟩ := cy
                  dsimp only at HDn hrk'
                  have hX0 := At.new 82 wr #[.int .i64 0, .int .i64 0, .int .i64 0]
                  have hXr := hX0.row #[.int .i64 (Dn.mk yc yq yv).c, .int .i64 (Dn.mk yc yq yv).q, .int .i64 (Dn.mk yc yq yv).v]
                  have hba : Below wr.heap.size wr ((wr.alloc (.cells #[.int .i64 0, .int .i64 0, .int .i64 0] 82)).setRow wr.heap.size #[.int .i64 (Dn.mk yc yq yv).c, .int .i64 (Dn.mk yc yq yv).q, .int .i64 (Dn.mk yc yq yv).v]) := (below_alloc' wr (.cells #[.int .i64 0, .int .i64 0, .int .i64 0] 82)).trans (below_setRow _ _ _ (Nat.le_refl _))
                  have hP1 := hP.below hba
                  dsimp only at hXr hba hP1
                  have y0 := At.cell hXr 0
                  have y1 := At.cell hXr 1
                  have y2 := At.cell hXr 2
                  simp only [List.getElem?_toArray, List.getElem?_cons_zero, List.getElem?_cons_succ] at y0 y1 y2
                  clear hba hP
                  by_cases hyc : yc = (k : Int)
                  · as_aux_lemma =>
                    have hyb : (yc == (k : Int)) = true := by simp [hyc]
                    rw [if_pos hyb] at HDn
                    obtain ⟨p9, c9, w9, hrun, kc, fc, hP9, _⟩ := hP1.appD (Dn.mk yc yq yv) (by omega)
                    have z3 := At.cell hP1.b5 3
                    simp only [List.getElem?_toArray, List.getElem?_cons_zero, List.getElem?_cons_succ] at z3
                    have HDh : Hid (od1 = (od ++ [Dn.mk yc yq yv]) ++ (D.drop (j + 1)).filter fun e => e.c == (k : Int)) := by rw [HDn, List.append_assoc]; rfl
                    clear HDn hyc
                    go_wp2_with (first | refine wpList_load_mid rfl 82 _ rfl bb (o + j * 3) rfl _ _ hrk' Tryd.underlying82 rfl infoDn ?_ | refine wpList_store_row rfl 82 _ _ rfl wr.heap.size #[.int .i64 (Dn.mk yc yq yv).c, .int .i64 (Dn.mk yc yq yv).q, .int .i64 (Dn.mk yc yq yv).v] rfl rfl _ _ hX0 infoDn rfl (by simp [Value.oneCell']) ?_ | refine wpList_load_row rfl 82 _ rfl wr.heap.size rfl _ _ _ _ hXr Tryd.underlying82 rfl infoDn ?_ | refine wpList_bslG rfl 23 1 0 _ rfl (.agg #[.int .i64 (Dn.mk yc yq yv).c, .int .i64 (Dn.mk yc yq yv).q, .int .i64 (Dn.mk yc yq yv).v]) rfl _ _ (bsl_dn (Dn.mk yc yq yv) _) ?_ | refine wpList_app_run rfl (.tmp 104) (.tmp 106) 23 rfl (.slice q m d) (.slice (some ⟨((wr.alloc (.cells #[.int .i64 0, .int .i64 0, .int .i64 0] 82)).setRow wr.heap.size #[.int .i64 (Dn.mk yc yq yv).c, .int .i64 (Dn.mk yc yq yv).q, .int .i64 (Dn.mk yc yq yv).v]).heap.size, 0, none⟩) 1 1) (by go_simp) (by go_simp) hrun ?_)
                    exact ⟨⟨j + 1, p9, m + 1, c9, _, by omega, by go_num, hP9, HDh, by omega⟩, by simp [intOf]; omega⟩
                  · as_aux_lemma =>
                    have hyb : (yc == (k : Int)) = false := by simpa using hyc
                    rw [if_neg (by simp [hyb])] at HDn
                    have HDh : Hid (od1 = _) := HDn
                    clear HDn hyc
                    go_wp2_with (first | refine wpList_load_mid rfl 82 _ rfl bb (o + j * 3) rfl _ _ hrk' Tryd.underlying82 rfl infoDn ?_ | refine wpList_store_row rfl 82 _ _ rfl wr.heap.size #[.int .i64 (Dn.mk yc yq yv).c, .int .i64 (Dn.mk yc yq yv).q, .int .i64 (Dn.mk yc yq yv).v] rfl rfl _ _ hX0 infoDn rfl (by simp [Value.oneCell']) ?_)
                    exact ⟨⟨j + 1, q, m, d, od, by omega, by go_num, hP1, HDh, by omega⟩, by simp [intOf]; omega⟩
                · as_aux_lemma =>
                  have hji : ¬ (j : Int) < (dn : Int) := by omega
                  have hDe := HD.out
                  rw [List.drop_of_length_le (by rw [hD.len]; omega), List.filter_nil, List.append_nil] at hDe
                  have HDh : Hid (od1 = od) := hDe
                  clear HD hDe
                  go_wp2_with fail
                  rw [← HDh.out, ← HOD.out] at hP
                  exact ⟨⟨k + 1, q, m, d, by omega, by go_num, hP, by omega⟩, by simp [intOf]; omega⟩
          · as_aux_lemma =>
            have hki : ¬ (k : Int) < 4 := by omega
            have hk4' : k = 4 := by omega
            subst hk4'
            have hlc := hP.oc.rd.len
            have hld := hP.od.rd.len
            have hB5 := hP.b5
            have hB4 := hP.b4
            have hbr := hB4.row #[.int .i64 xi, .int .i64 xe, .slice p n c, .slice q m d]
            have hbel := hP.bel.trans (below_setRow wr (w.heap.size + 1 + 1) #[.int .i64 xi, .int .i64 xe, .slice p n c, .slice q m d] (by omega))
            go_wp2_with (first | refine wpList_load_row rfl 25 _ rfl (w.heap.size + 1 + 1 + 1) rfl _ _ _ _ hB5 Tryd.underlying25 rfl infoTb ?_ | refine wpList_store_row rfl 25 _ _ rfl (w.heap.size + 1 + 1) #[.int .i64 xi, .int .i64 xe, .slice p n c, .slice q m d] rfl rfl _ _ hB4 infoTb rfl (by simp [Value.oneCell']) ?_)
            exact bodyPost_ret (v := .agg #[.int .i64 xi, .int .i64 xe, .slice p n c, .slice q m d]) (results_cell_row rfl _ _ (w.heap.size + 1 + 1) _ _ _ _ rfl hbr Tryd.underlying25 rfl infoTb) rfl (by rw [HE2.out]; exact ⟨p, c, q, d, by first | rw [hlc, hld] | rw [hlc] | rw [hld], by first | (rw [hlc]; exact (hP.oc.ch (Ch.setRow wr _ _) (fun k hk e => by have := (hP.oc.lt hk).1; omega)).lower (by omega)) | (exact (hP.oc.ch (Ch.setRow wr _ _) (fun k hk e => by have := (hP.oc.lt hk).1; omega)).lower (by omega)), by first | (rw [hld]; exact (hP.od.ch (Ch.setRow wr _ _) (fun k hk e => by have := (hP.od.lt hk).1; omega)).lower (by omega)) | (exact (hP.od.ch (Ch.setRow wr _ _) (fun k hk e => by have := (hP.od.lt hk).1; omega)).lower (by omega)), hbel⟩)

      | false =>
        as_aux_lemma =>
        have hE2 : putT C (Ce.mk xk xv xs) = out ++ [(Ce.mk xk xv xs)] := by rw [HE.out]; rfl
        have HE2 : Hid (putT C (Ce.mk xk xv xs) = out ++ [(Ce.mk xk xv xs)]) := hE2
        obtain ⟨p9, c9, w9, hrun, kc, fc, hP9, _⟩ := hP.appC (Ce.mk xk xv xs) (by omega)
        have u2 := At.cell hP.b3 2
        have u3 := At.cell hP.b3 3
        have u4 := At.cell hP.b3 4
        have u5 := At.cell hP.b3 5
        have u6 := At.cell hP.b3 6
        have u7 := At.cell hP.b3 7
        have u8 := At.cell hP.b3 8
        have u9 := At.cell hP.b3 9
        have u10 := At.cell hP.b3 10
        have u11 := At.cell hP.b3 11
        simp only [List.getElem?_toArray, List.getElem?_cons_zero, List.getElem?_cons_succ] at u2 u3 u4 u5 u6 u7 u8 u9 u10 u11
        have z2 := At.cell hP.b5 2
        simp only [List.getElem?_toArray, List.getElem?_cons_zero, List.getElem?_cons_succ] at z2
        clear HE hE2 hck hC hP
        have HP2 : Hid (PT w #[.int .i64 ix, .int .i64 ep, .slice cp cn cc, .slice dp dn dc] (Rc.mk xi xe xk xv xs xc xq) p9 (n + 1) c9 (out ++ [(Ce.mk xk xv xs)]) none 0 0 [] (w9.setCell ⟨w.heap.size + 1 + 1 + 1, 2, none⟩ (.slice p9 (n + 1) c9))) := hP9
        clear hP9
        go_wp2_with (first | refine wpList_buildG rfl 53 #[(0, .tmp 63), (1, .tmp 65), (2, .tmp 67)] rfl #[(0, .agg #[.int .u8 (bt (xk) 0), .int .u8 (bt (xk) 1), .int .u8 (bt (xk) 2), .int .u8 (bt (xk) 3), .int .u8 (bt (xk) 4), .int .u8 (bt (xk) 5), .int .u8 (bt (xk) 6), .int .u8 (bt (xk) 7)]), (1, .int .i64 xv), (2, .string xs)] (by go_simp) _ (bld_ce xk xv xs _) ?_ | refine wpList_bslG rfl 22 1 0 _ rfl (.agg #[.int .u8 (bt (Ce.mk xk xv xs).k 0), .int .u8 (bt (Ce.mk xk xv xs).k 1), .int .u8 (bt (Ce.mk xk xv xs).k 2), .int .u8 (bt (Ce.mk xk xv xs).k 3), .int .u8 (bt (Ce.mk xk xv xs).k 4), .int .u8 (bt (Ce.mk xk xv xs).k 5), .int .u8 (bt (Ce.mk xk xv xs).k 6), .int .u8 (bt (Ce.mk xk xv xs).k 7), .int .i64 (Ce.mk xk xv xs).v, .string (Ce.mk xk xv xs).s]) rfl _ _ (bsl_ce (Ce.mk xk xv xs) _) ?_ | refine wpList_app_run rfl (.tmp 61) (.tmp 69) 22 rfl (.slice p n c) (.slice (some ⟨wr.heap.size, 0, none⟩) 1 1) (by go_simp) (by go_simp) hrun ?_)
        have hP2 := HP2.out
        clear HP2
        generalize w9.setCell ⟨w.heap.size + 1 + 1 + 1, 2, none⟩ (.slice p9 (n + 1) c9) = wA at *
        go_loopw [72, 9] (fun i b9 wr => ∃ (k : Nat) (q : Option Addr) (m d : Nat), k ≤ 4 ∧ i = .int .i64 k ∧ PT w #[.int .i64 ix, .int .i64 ep, .slice cp cn cc, .slice dp dn dc] (Rc.mk xi xe xk xv xs xc xq) p9 (n + 1) c9 (out ++ [(Ce.mk xk xv xs)]) q m d (putD D (Rc.mk xi xe xk xv xs xc xq) k) wr ∧ m ≤ 101 * k) (fun i _ _ => 4 - (intOf i).toNat)
        case atStart => exact ⟨0, none, 0, 0, Nat.zero_le _, rfl, hP2, Nat.zero_le _⟩
        case round =>
          clear hP2
          obtain ⟨k, q, m, d, hk, rfl, hP, hm⟩ := hrel
          by_cases hk4 : k < 4
          · as_aux_lemma =>
            have hki : (k : Int) < 4 := by omega
            have he1 : putD D (Rc.mk xi xe xk xv xs xc xq) (k + 1) = putD D (Rc.mk xi xe xk xv xs xc xq) k ++ (if (k : Int) = xc then [⟨k, xq, xv⟩] else D.filter fun e => e.c == (k : Int)) := rfl
            have u10 := At.cell hP.b3 10
            have u12 := At.cell hP.b3 12
            have u13 := At.cell hP.b3 13
            simp only [List.getElem?_toArray, List.getElem?_cons_zero, List.getElem?_cons_succ] at u10 u12 u13
            by_cases hkc : (k : Int) = xc
            · as_aux_lemma =>
              rw [if_pos hkc] at he1
              have hkb : ((k : Int) == xc) = true := by simp [hkc]
              have z3 := At.cell hP.b5 3
              simp only [List.getElem?_toArray, List.getElem?_cons_zero, List.getElem?_cons_succ] at z3
              obtain ⟨p9, c9, w9, hrun, kc, fc, hP9, _⟩ := hP.appD (Dn.mk k xq xv) (by omega)
              rw [← he1] at hP9
              clear hkc he1
              go_wp2_with (first | refine wpList_bslG rfl 23 1 0 _ rfl (.agg #[.int .i64 (Dn.mk k xq xv).c, .int .i64 (Dn.mk k xq xv).q, .int .i64 (Dn.mk k xq xv).v]) rfl _ _ (bsl_dn (Dn.mk k xq xv) _) ?_ | refine wpList_app_run rfl (.tmp 81) (.tmp 89) 23 rfl (.slice q m d) (.slice (some ⟨wr.heap.size, 0, none⟩) 1 1) (by go_simp) (by go_simp) hrun ?_)
              exact ⟨⟨k + 1, p9, m + 1, c9, by omega, by go_num, hP9, by omega⟩, by simp [intOf]; omega⟩
            · as_aux_lemma =>
              rw [if_neg hkc] at he1
              have hkb : ((k : Int) == xc) = false := by simpa using hkc
              have HD : Hid (putD D (Rc.mk xi xe xk xv xs xc xq) (k + 1) = putD D (Rc.mk xi xe xk xv xs xc xq) k ++ (D.drop 0).filter fun e => e.c == (k : Int)) := he1
              have HP : Hid (PT w #[.int .i64 ix, .int .i64 ep, .slice cp cn cc, .slice dp dn dc] (Rc.mk xi xe xk xv xs xc xq) p9 (n + 1) c9 (out ++ [(Ce.mk xk xv xs)]) q m d (putD D (Rc.mk xi xe xk xv xs xc xq) k) wr) := hP
              have t3 := At.cell hP.b2 3
              simp only [List.getElem?_toArray, List.getElem?_cons_zero, List.getElem?_cons_succ] at t3
              clear hkc he1 hP
              generalize putD D (Rc.mk xi xe xk xv xs xc xq) k = od0 at *
              obtain ⟨od1, hod1⟩ : ∃ od1, putD D (Rc.mk xi xe xk xv xs xc xq) (k + 1) = od1 := ⟨_, rfl⟩
              rw [hod1] at HD
              have HOD : Hid (putD D (Rc.mk xi xe xk xv xs xc xq) (k + 1) = od1) := hod1
              clear hod1
              go_wp2_with fail
              have hP := HP.out
              clear HP
              go_loopw [95] (fun i wr => ∃ (j : Nat) (q : Option Addr) (m d : Nat) (od : List Dn), j ≤ dn ∧ i = .int .i64 j ∧ PT w #[.int .i64 ix, .int .i64 ep, .slice cp cn cc, .slice dp dn dc] (Rc.mk xi xe xk xv xs xc xq) p9 (n + 1) c9 (out ++ [(Ce.mk xk xv xs)]) q m d od wr ∧ Hid (od1 = od ++ (D.drop j).filter fun e => e.c == (k : Int)) ∧ m ≤ 101 * k + j) (fun i _ => dn - (intOf i).toNat)
              case atStart => exact ⟨0, q, m, d, od0, Nat.zero_le _, rfl, hP, HD, by omega⟩
              case round =>
                clear hP HD hm
                obtain ⟨j, q, m, d, od, hj, rfl, hP, HD, hm⟩ := hrel
                by_cases hjn : j < dn
                · as_aux_lemma =>
                  have hji : (j : Int) < (dn : Int) := by omega
                  obtain ⟨bb, o, rfl, _⟩ := hD.at (by omega)
                  have hjl : j < D.length := by rw [hD.len]; exact hjn
                  have hrk := hD.rangeB hP.bel hjn
                  have hgd : D.drop j = D.getD j donS.z :: D.drop (j + 1) := by rw [List.drop_eq_getElem_cons hjl, List.getD_eq_getElem?_getD, List.getElem?_eq_getElem hjl]; rfl
                  have HDn := HD.out
                  rw [hgd, List.filter_cons] at HDn
                  have hrk' : wr.rangeAt bb (o + j * 3) [.int .i64 (D.getD j donS.z).c, .int .i64 (D.getD j donS.z).q, .int .i64 (D.getD j donS.z).v] := hrk
                  clear hrk hgd HD
                  generalize D.getD j donS.z = cy at *
                  obtain ⟨yc, yq, yv⟩ := cy
                  dsimp only at HDn hrk'
                  have hX0 := At.new 82 wr #[.int .i64 0, .int .i64 0, .int .i64 0]
                  have hXr := hX0.row #[.int .i64 (Dn.mk yc yq yv).c, .int .i64 (Dn.mk yc yq yv).q, .int .i64 (Dn.mk yc yq yv).v]
                  have hba : Below wr.heap.size wr ((wr.alloc (.cells #[.int .i64 0, .int .i64 0, .int .i64 0] 82)).setRow wr.heap.size #[.int .i64 (Dn.mk yc yq yv).c, .int .i64 (Dn.mk yc yq yv).q, .int .i64 (Dn.mk yc yq yv).v]) := (below_alloc' wr (.cells #[.int .i64 0, .int .i64 0, .int .i64 0] 82)).trans (below_setRow _ _ _ (Nat.le_refl _))
                  have hP1 := hP.below hba
                  dsimp only at hXr hba hP1
                  have y0 := At.cell hXr 0
                  have y1 := At.cell hXr 1
                  have y2 := At.cell hXr 2
                  simp only [List.getElem?_toArray, List.getElem?_cons_zero, List.getElem?_cons_succ] at y0 y1 y2
                  clear hba hP
                  by_cases hyc : yc = (k : Int)
                  · as_aux_lemma =>
                    have hyb : (yc == (k : Int)) = true := by simp [hyc]
                    rw [if_pos hyb] at HDn
                    obtain ⟨p9, c9, w9, hrun, kc, fc, hP9, _⟩ := hP1.appD (Dn.mk yc yq yv) (by omega)
                    have z3 := At.cell hP1.b5 3
                    simp only [List.getElem?_toArray, List.getElem?_cons_zero, List.getElem?_cons_succ] at z3
                    have HDh : Hid (od1 = (od ++ [Dn.mk yc yq yv]) ++ (D.drop (j + 1)).filter fun e => e.c == (k : Int)) := by rw [HDn, List.append_assoc]; rfl
                    clear HDn hyc
                    go_wp2_with (first | refine wpList_load_mid rfl 82 _ rfl bb (o + j * 3) rfl _ _ hrk' Tryd.underlying82 rfl infoDn ?_ | refine wpList_store_row rfl 82 _ _ rfl wr.heap.size #[.int .i64 (Dn.mk yc yq yv).c, .int .i64 (Dn.mk yc yq yv).q, .int .i64 (Dn.mk yc yq yv).v] rfl rfl _ _ hX0 infoDn rfl (by simp [Value.oneCell']) ?_ | refine wpList_load_row rfl 82 _ rfl wr.heap.size rfl _ _ _ _ hXr Tryd.underlying82 rfl infoDn ?_ | refine wpList_bslG rfl 23 1 0 _ rfl (.agg #[.int .i64 (Dn.mk yc yq yv).c, .int .i64 (Dn.mk yc yq yv).q, .int .i64 (Dn.mk yc yq yv).v]) rfl _ _ (bsl_dn (Dn.mk yc yq yv) _) ?_ | refine wpList_app_run rfl (.tmp 104) (.tmp 106) 23 rfl (.slice q m d) (.slice (some ⟨((wr.alloc (.cells #[.int .i64 0, .int .i64 0, .int .i64 0] 82)).setRow wr.heap.size #[.int .i64 (Dn.mk yc yq yv).c, .int .i64 (Dn.mk yc yq yv).q, .int .i64 (Dn.mk yc yq yv).v]).heap.size, 0, none⟩) 1 1) (by go_simp) (by go_simp) hrun ?_)
                    exact ⟨⟨j + 1, p9, m + 1, c9, _, by omega, by go_num, hP9, HDh, by omega⟩, by simp [intOf]; omega⟩
                  · as_aux_lemma =>
                    have hyb : (yc == (k : Int)) = false := by simpa using hyc
                    rw [if_neg (by simp [hyb])] at HDn
                    have HDh : Hid (od1 = _) := HDn
                    clear HDn hyc
                    go_wp2_with (first | refine wpList_load_mid rfl 82 _ rfl bb (o + j * 3) rfl _ _ hrk' Tryd.underlying82 rfl infoDn ?_ | refine wpList_store_row rfl 82 _ _ rfl wr.heap.size #[.int .i64 (Dn.mk yc yq yv).c, .int .i64 (Dn.mk yc yq yv).q, .int .i64 (Dn.mk yc yq yv).v] rfl rfl _ _ hX0 infoDn rfl (by simp [Value.oneCell']) ?_)
                    exact ⟨⟨j + 1, q, m, d, od, by omega, by go_num, hP1, HDh, by omega⟩, by simp [intOf]; omega⟩
                · as_aux_lemma =>
                  have hji : ¬ (j : Int) < (dn : Int) := by omega
                  have hDe := HD.out
                  rw [List.drop_of_length_le (by rw [hD.len]; omega), List.filter_nil, List.append_nil] at hDe
                  have HDh : Hid (od1 = od) := hDe
                  clear HD hDe
                  go_wp2_with fail
                  rw [← HDh.out, ← HOD.out] at hP
                  exact ⟨⟨k + 1, q, m, d, by omega, by go_num, hP, by omega⟩, by simp [intOf]; omega⟩
          · as_aux_lemma =>
            have hki : ¬ (k : Int) < 4 := by omega
            have hk4' : k = 4 := by omega
            subst hk4'
            have hlc := hP.oc.rd.len
            have hld := hP.od.rd.len
            have hB5 := hP.b5
            have hB4 := hP.b4
            have hbr := hB4.row #[.int .i64 xi, .int .i64 xe, .slice p9 (n + 1) c9, .slice q m d]
            have hbel := hP.bel.trans (below_setRow wr (w.heap.size + 1 + 1) #[.int .i64 xi, .int .i64 xe, .slice p9 (n + 1) c9, .slice q m d] (by omega))
            go_wp2_with (first | refine wpList_load_row rfl 25 _ rfl (w.heap.size + 1 + 1 + 1) rfl _ _ _ _ hB5 Tryd.underlying25 rfl infoTb ?_ | refine wpList_store_row rfl 25 _ _ rfl (w.heap.size + 1 + 1) #[.int .i64 xi, .int .i64 xe, .slice p9 (n + 1) c9, .slice q m d] rfl rfl _ _ hB4 infoTb rfl (by simp [Value.oneCell']) ?_)
            exact bodyPost_ret (v := .agg #[.int .i64 xi, .int .i64 xe, .slice p9 (n + 1) c9, .slice q m d]) (results_cell_row rfl _ _ (w.heap.size + 1 + 1) _ _ _ _ rfl hbr Tryd.underlying25 rfl infoTb) rfl (by rw [HE2.out]; exact ⟨p9, c9, q, d, by first | rw [hlc, hld] | rw [hlc] | rw [hld], by first | (rw [hlc]; exact (hP.oc.ch (Ch.setRow wr _ _) (fun k hk e => by have := (hP.oc.lt hk).1; omega)).lower (by omega)) | (exact (hP.oc.ch (Ch.setRow wr _ _) (fun k hk e => by have := (hP.oc.lt hk).1; omega)).lower (by omega)), by first | (rw [hld]; exact (hP.od.ch (Ch.setRow wr _ _) (fun k hk e => by have := (hP.od.lt hk).1; omega)).lower (by omega)) | (exact (hP.od.ch (Ch.setRow wr _ _) (fun k hk e => by have := (hP.od.lt hk).1; omega)).lower (by omega)), hbel⟩)


end Go.Proofs.YtnbgdkdnlfomeaaDoor.M

namespace Go.Proofs.YtnbgdkdnlfomeaaDoor.M
open Go.ChangeShapes Go.WideShapes Go.ChangeAt Go.RowKit Go.ChangeMaps Go.MapKept Go.Maps Go.Shelf Go.Proofs
set_option linter.unusedSimpArgs false


/-- A table in plain words: index, epoch, cells, what clients got. -/
structure Tb where
  ix : Int
  ep : Int
  C : List Ce
  D : List Dn

def Tb.put (t : Tb) (x : Rc) : Tb := ⟨x.ix, x.ep, putT t.C ⟨x.k, x.v, x.s⟩, putD t.D x 4⟩

def Tb.st (i : Int) (t : Tb) (x : Rc) : Tb := if x.ix ≤ i then t.put x else t

def Tb.up (t : Tb) (i : Int) (R : List Rc) : Tb := R.foldl (Tb.st i) t

def Tb.ok (t : Tb) : Prop := t.C.length ≤ 100 ∧ t.D.length ≤ 100 ∧ ∀ c ∈ t.C, c.k < 18446744073709551616

theorem Tb.up_next {t : Tb} {i : Int} {R : List Rc} {k : Nat} (hk : k < R.length) : t.up i (R.take (k + 1)) = Tb.st i (t.up i (R.take k)) (R.getD k recS.z) := by
  unfold Tb.up
  rw [List.take_succ_eq_append_getElem hk, List.foldl_append, List.getD_eq_getElem?_getD, List.getElem?_eq_getElem hk]
  rfl

theorem OwG.blk {T : Type} {S : Shp T} {e : TypeId} {w : World} {B : Nat} {p : Option Addr} {n c : Nat} {fs : List T} (h : OwG S e w B p n c fs) (h0 : 0 < fs.length) {a : Addr} (ha : p = some a) : B ≤ a.block :=
  (h.lt ⟨Nat.lt_of_lt_of_le h0 (by have := h.rd.cap; have := h.len; omega), a, ha, rfl⟩).1

/-- A table under way: its box, and its two lists. -/
structure UW (w : World) (g : Nat) (t : Tb) (cp : Option Addr) (cc : Nat) (dp : Option Addr) (dc : Nat) (W : World) : Prop where
  bel : Below w.heap.size w W
  b4 : At 25 W w.heap.size #[.int .i64 0, .int .i64 0, .slice none 0 0, .slice none 0 0]
  b5 : At 25 W (w.heap.size + 1) #[.int .i64 t.ix, .int .i64 t.ep, .slice cp t.C.length cc, .slice dp t.D.length dc]
  c : RdG celS W cp t.C.length cc t.C
  d : RdG donS W dp t.D.length dc t.D
  sz : w.heap.size + 2 ≤ W.heap.size
  cb : 0 < t.C.length → ∀ a, cp = some a → a.block ≠ w.heap.size ∧ a.block ≠ w.heap.size + 1
  db : 0 < t.D.length → ∀ a, dp = some a → a.block ≠ w.heap.size ∧ a.block ≠ w.heap.size + 1

theorem UW.below {w : World} {g : Nat} {t : Tb} {cp : Option Addr} {cc : Nat} {dp : Option Addr} {dc : Nat} {W W' : World} (h : UW w g t cp cc dp dc W) (hb : Below W.heap.size W W') : UW w g t cp cc dp dc W' :=
  ⟨h.bel.trans (hb.mono h.bel.size), h.b4.below hb, h.b5.below hb, h.c.below hb, h.d.below hb, Nat.le_trans h.sz hb.size, h.cb, h.db⟩

set_option maxRecDepth 20000 in
set_option maxHeartbeats 4000000 in
/-- The document's UpTo. -/
theorem rUp_any {w : World} {g : Nat} {ix ep : Int} {cp : Option Addr} {cn cc : Nat} {C : List Ce} {dp : Option Addr} {dn dc : Nat} {D : List Dn} {rp : Option Addr} {rn rc : Nat} {R : List Rc} {com : Int} (h : RX w g ix ep cp cn cc C dp dn dc D rp rn rc R com) (hrk0 : ∀ x ∈ R, x.k < 18446744073709551616) (qi : Int) (hB : ∀ k, k ≤ rn → ((Tb.mk ix ep C D).up qi (R.take k)).ok) :
    Calls Tryd.prog 28 #[.pointer (some ⟨g, 0, none⟩), .int .i64 qi] w fun e w1 => ∃ cp1 cc1 dp1 dc1, e = .returned (.agg #[.int .i64 ((Tb.mk ix ep C D).up qi R).ix, .int .i64 ((Tb.mk ix ep C D).up qi R).ep, .slice cp1 ((Tb.mk ix ep C D).up qi R).C.length cc1, .slice dp1 ((Tb.mk ix ep C D).up qi R).D.length dc1]) ∧ RdG celS w1 cp1 ((Tb.mk ix ep C D).up qi R).C.length cc1 ((Tb.mk ix ep C D).up qi R).C ∧ RdG donS w1 dp1 ((Tb.mk ix ep C D).up qi R).D.length dc1 ((Tb.mk ix ep C D).up qi R).D ∧ Below w.heap.size w w1 := by
  have hr0 := h.r
  have hnr := h.nr
  have hlr := h.r.len
  have hcl := h.c.len
  have hdl := h.d.len
  have hba : Below w.heap.size w ((w.alloc (.cells #[.int .i64 0, .int .i64 0, .slice none 0 0, .slice none 0 0] 25)).alloc (.cells #[.int .i64 0, .int .i64 0, .slice none 0 0, .slice none 0 0] 25)) := (below_alloc' w _).trans ((below_alloc' _ _).mono (by simp))
  have s1 : (w.alloc (.cells #[.int .i64 0, .int .i64 0, .slice none 0 0, .slice none 0 0] 25)).heap.size = w.heap.size + 1 := by simp
  have hn5 : At 25 ((w.alloc (.cells #[.int .i64 0, .int .i64 0, .slice none 0 0, .slice none 0 0] 25)).alloc (.cells #[.int .i64 0, .int .i64 0, .slice none 0 0, .slice none 0 0] 25)) (w.heap.size + 1) #[.int .i64 0, .int .i64 0, .slice none 0 0, .slice none 0 0] := by rw [← s1]; exact At.new _ _ _
  have hbb : Below w.heap.size w (((w.alloc (.cells #[.int .i64 0, .int .i64 0, .slice none 0 0, .slice none 0 0] 25)).alloc (.cells #[.int .i64 0, .int .i64 0, .slice none 0 0, .slice none 0 0] 25)).setRow (w.heap.size + 1) #[.int .i64 ix, .int .i64 ep, .slice cp cn cc, .slice dp dn dc]) := hba.trans (below_setRow _ _ _ (by omega))
  have hmid : (w.alloc (.cells #[.int .i64 0, .int .i64 0, .slice none 0 0, .slice none 0 0] 25)).rangeAt g 0 [.int .i64 ix, .int .i64 ep, .slice cp cn cc, .slice dp dn dc] := by
    have hx := h.blk.below (below_alloc' w (.cells #[.int .i64 0, .int .i64 0, .slice none 0 0, .slice none 0 0] 25))
    have e0 := At.cell hx 0
    have e1 := At.cell hx 1
    have e2 := At.cell hx 2
    have e3 := At.cell hx 3
    simp only [List.getElem?_toArray, List.getElem?_cons_zero, List.getElem?_cons_succ] at e0 e1 e2 e3
    intro j v hv
    rcases j with _ | _ | _ | _ | j
    · have := Option.some.inj (show some _ = some v from hv); subst this; exact e0
    · have := Option.some.inj (show some _ = some v from hv); subst this; exact e1
    · have := Option.some.inj (show some _ = some v from hv); subst this; exact e2
    · have := Option.some.inj (show some _ = some v from hv); subst this; exact e3
    · simp at hv
  have hW0 : UW w g ((Tb.mk ix ep C D).up qi (R.take 0)) cp cc dp dc (((w.alloc (.cells #[.int .i64 0, .int .i64 0, .slice none 0 0, .slice none 0 0] 25)).alloc (.cells #[.int .i64 0, .int .i64 0, .slice none 0 0, .slice none 0 0] 25)).setRow (w.heap.size + 1) #[.int .i64 ix, .int .i64 ep, .slice cp cn cc, .slice dp dn dc]) := by
    refine ⟨hbb, ?_, ?_, ?_, ?_, ?_, ?_, ?_⟩
    · have h0 := (At.new 25 w #[.int .i64 0, .int .i64 0, .slice none 0 0, .slice none 0 0]).alloc (.cells #[.int .i64 0, .int .i64 0, .slice none 0 0, .slice none 0 0] 25)
      exact At.same h0 ((Ch.setRow _ _ _).block _ (At.lt h0) (by omega))
    · show At 25 _ _ #[.int .i64 ix, .int .i64 ep, .slice cp C.length cc, .slice dp D.length dc]
      rw [hcl, hdl]
      exact hn5.row _
    · show RdG celS _ cp C.length cc C
      rw [hcl]
      exact h.c.below hbb
    · show RdG donS _ dp D.length dc D
      rw [hdl]
      exact h.d.below hbb
    · have := hbb.size
      have h5 := At.lt (hn5.row #[.int .i64 ix, .int .i64 ep, .slice cp cn cc, .slice dp dn dc])
      omega
    · intro h0 a ha
      have := h.c.lt (by rw [← hcl]; exact h0) ha
      omega
    · intro h0 a ha
      have := h.d.lt (by rw [← hdl]; exact h0) ha
      omega
  have HW : Hid (UW w g ((Tb.mk ix ep C D).up qi (R.take 0)) cp cc dp dc (((w.alloc (.cells #[.int .i64 0, .int .i64 0, .slice none 0 0, .slice none 0 0] 25)).alloc (.cells #[.int .i64 0, .int .i64 0, .slice none 0 0, .slice none 0 0] 25)).setRow (w.heap.size + 1) #[.int .i64 ix, .int .i64 ep, .slice cp cn cc, .slice dp dn dc])) := hW0
  have x4 : (((w.alloc (.cells #[.int .i64 0, .int .i64 0, .slice none 0 0, .slice none 0 0] 25)).alloc (.cells #[.int .i64 0, .int .i64 0, .slice none 0 0, .slice none 0 0] 25)).setRow (w.heap.size + 1) #[.int .i64 ix, .int .i64 ep, .slice cp cn cc, .slice dp dn dc]).cell? ⟨g, 4, none⟩ = some (.slice rp rn rc) := by
    have hx := h.blk.below hbb
    have e4 := At.cell hx 4
    simp only [List.getElem?_toArray, List.getElem?_cons_zero, List.getElem?_cons_succ] at e4
    exact e4
  clear hW0 hba s1 h hcl hdl
  go_enter Tryd.func28, Tryd.ntmps28
  go_wp2_with (first | refine wpList_load_mid rfl 25 _ rfl g 0 rfl _ _ hmid Tryd.underlying25 rfl infoTb ?_ | refine wpList_store_row rfl 25 _ _ rfl (w.heap.size + 1) #[.int .i64 ix, .int .i64 ep, .slice cp cn cc, .slice dp dn dc] rfl rfl _ _ hn5 infoTb rfl (by simp [Value.oneCell']) ?_)
  have hW := HW.out
  clear HW hn5 hmid x4 hbb
  generalize (((w.alloc (.cells #[.int .i64 0, .int .i64 0, .slice none 0 0, .slice none 0 0] 25)).alloc (.cells #[.int .i64 0, .int .i64 0, .slice none 0 0, .slice none 0 0] 25)).setRow (w.heap.size + 1) #[.int .i64 ix, .int .i64 ep, .slice cp cn cc, .slice dp dn dc]) = V0 at *
  go_loopw [17] (fun i wr => ∃ (k : Nat) (cp1 : Option Addr) (cc1 : Nat) (dp1 : Option Addr) (dc1 : Nat), k ≤ rn ∧ i = .int .i64 k ∧ UW w g ((Tb.mk ix ep C D).up qi (R.take k)) cp1 cc1 dp1 dc1 wr) (fun i _ => rn - (intOf i).toNat)
  case atStart => exact ⟨0, cp, cc, dp, dc, Nat.zero_le _, rfl, hW⟩
  case round =>
    clear hW
    obtain ⟨k, cp1, cc1, dp1, dc1, hk, rfl, hT⟩ := hrel
    by_cases hkn : k < rn
    · as_aux_lemma =>
      have hki : (k : Int) < (rn : Int) := by omega
      obtain ⟨bb, o, rfl, _⟩ := hr0.at (by omega)
      have hkl : k < R.length := by rw [hr0.len]; exact hkn
      have hrk' : wr.rangeAt bb (o + k * 14) [.int .i64 (R.getD k recS.z).ix, .int .i64 (R.getD k recS.z).ep, .int .u8 (bt (R.getD k recS.z).k 0), .int .u8 (bt (R.getD k recS.z).k 1), .int .u8 (bt (R.getD k recS.z).k 2), .int .u8 (bt (R.getD k recS.z).k 3), .int .u8 (bt (R.getD k recS.z).k 4), .int .u8 (bt (R.getD k recS.z).k 5), .int .u8 (bt (R.getD k recS.z).k 6), .int .u8 (bt (R.getD k recS.z).k 7), .int .i64 (R.getD k recS.z).v, .string (R.getD k recS.z).s, .int .i64 (R.getD k recS.z).c, .int .i64 (R.getD k recS.z).q] := hr0.rangeB hT.bel hkn
      have hN := Tb.up_next (t := (Tb.mk ix ep C D)) (i := qi) hkl
      have hBk := hB k hk
      have hxk : (R.getD k recS.z).k < 18446744073709551616 := by rw [List.getD_eq_getElem?_getD, List.getElem?_eq_getElem hkl]; exact hrk0 _ (List.getElem_mem _)
      clear hB hrk0 hkl hlr
      generalize (Tb.mk ix ep C D).up qi (R.take k) = t1 at *
      generalize R.getD k recS.z = x at *
      obtain ⟨xi, xe, xk, xv, xs, xc, xq⟩ := x
      dsimp only at hxk hrk'
      have hX0 := At.new 64 wr #[.int .i64 0, .int .i64 0, .int .u8 0, .int .u8 0, .int .u8 0, .int .u8 0, .int .u8 0, .int .u8 0, .int .u8 0, .int .u8 0, .int .i64 0, .string ⟨#[]⟩, .int .i64 0, .int .i64 0]
      have hXr := hX0.row #[.int .i64 (Rc.mk xi xe xk xv xs xc xq).ix, .int .i64 (Rc.mk xi xe xk xv xs xc xq).ep, .int .u8 (bt (Rc.mk xi xe xk xv xs xc xq).k 0), .int .u8 (bt (Rc.mk xi xe xk xv xs xc xq).k 1), .int .u8 (bt (Rc.mk xi xe xk xv xs xc xq).k 2), .int .u8 (bt (Rc.mk xi xe xk xv xs xc xq).k 3), .int .u8 (bt (Rc.mk xi xe xk xv xs xc xq).k 4), .int .u8 (bt (Rc.mk xi xe xk xv xs xc xq).k 5), .int .u8 (bt (Rc.mk xi xe xk xv xs xc xq).k 6), .int .u8 (bt (Rc.mk xi xe xk xv xs xc xq).k 7), .int .i64 (Rc.mk xi xe xk xv xs xc xq).v, .string (Rc.mk xi xe xk xv xs xc xq).s, .int .i64 (Rc.mk xi xe xk xv xs xc xq).c, .int .i64 (Rc.mk xi xe xk xv xs xc xq).q]
      have hba : Below wr.heap.size wr ((wr.alloc (.cells #[.int .i64 0, .int .i64 0, .int .u8 0, .int .u8 0, .int .u8 0, .int .u8 0, .int .u8 0, .int .u8 0, .int .u8 0, .int .u8 0, .int .i64 0, .string ⟨#[]⟩, .int .i64 0, .int .i64 0] 64)).setRow wr.heap.size #[.int .i64 (Rc.mk xi xe xk xv xs xc xq).ix, .int .i64 (Rc.mk xi xe xk xv xs xc xq).ep, .int .u8 (bt (Rc.mk xi xe xk xv xs xc xq).k 0), .int .u8 (bt (Rc.mk xi xe xk xv xs xc xq).k 1), .int .u8 (bt (Rc.mk xi xe xk xv xs xc xq).k 2), .int .u8 (bt (Rc.mk xi xe xk xv xs xc xq).k 3), .int .u8 (bt (Rc.mk xi xe xk xv xs xc xq).k 4), .int .u8 (bt (Rc.mk xi xe xk xv xs xc xq).k 5), .int .u8 (bt (Rc.mk xi xe xk xv xs xc xq).k 6), .int .u8 (bt (Rc.mk xi xe xk xv xs xc xq).k 7), .int .i64 (Rc.mk xi xe xk xv xs xc xq).v, .string (Rc.mk xi xe xk xv xs xc xq).s, .int .i64 (Rc.mk xi xe xk xv xs xc xq).c, .int .i64 (Rc.mk xi xe xk xv xs xc xq).q]) := (below_alloc' wr (.cells #[.int .i64 0, .int .i64 0, .int .u8 0, .int .u8 0, .int .u8 0, .int .u8 0, .int .u8 0, .int .u8 0, .int .u8 0, .int .u8 0, .int .i64 0, .string ⟨#[]⟩, .int .i64 0, .int .i64 0] 64)).trans (below_setRow _ _ _ (Nat.le_refl _))
      have hT1 := hT.below hba
      dsimp only at hXr hba hT1
      have y0 := At.cell (hXr) 0
      simp only [List.getElem?_toArray, List.getElem?_cons_zero, List.getElem?_cons_succ] at y0
      clear hba hT
      by_cases hle : xi ≤ qi
      · as_aux_lemma =>
        have hN2 : (Tb.mk ix ep C D).up qi (R.take (k + 1)) = t1.put (Rc.mk xi xe xk xv xs xc xq) := hN.trans (if_pos hle)
        have hb5 := hT1.b5
        have hT1s := hT1.sz
        have hPt := rPut_any (ix := t1.ix) (ep := t1.ep) hT1.c hT1.d hBk.1 hBk.2.1 hBk.2.2 xi xe xk xv xs xc xq hxk
        have HT1 : Hid (UW w g t1 cp1 cc1 dp1 dc1 ((wr.alloc (.cells #[.int .i64 0, .int .i64 0, .int .u8 0, .int .u8 0, .int .u8 0, .int .u8 0, .int .u8 0, .int .u8 0, .int .u8 0, .int .u8 0, .int .i64 0, .string ⟨#[]⟩, .int .i64 0, .int .i64 0] 64)).setRow wr.heap.size #[.int .i64 (Rc.mk xi xe xk xv xs xc xq).ix, .int .i64 (Rc.mk xi xe xk xv xs xc xq).ep, .int .u8 (bt (Rc.mk xi xe xk xv xs xc xq).k 0), .int .u8 (bt (Rc.mk xi xe xk xv xs xc xq).k 1), .int .u8 (bt (Rc.mk xi xe xk xv xs xc xq).k 2), .int .u8 (bt (Rc.mk xi xe xk xv xs xc xq).k 3), .int .u8 (bt (Rc.mk xi xe xk xv xs xc xq).k 4), .int .u8 (bt (Rc.mk xi xe xk xv xs xc xq).k 5), .int .u8 (bt (Rc.mk xi xe xk xv xs xc xq).k 6), .int .u8 (bt (Rc.mk xi xe xk xv xs xc xq).k 7), .int .i64 (Rc.mk xi xe xk xv xs xc xq).v, .string (Rc.mk xi xe xk xv xs xc xq).s, .int .i64 (Rc.mk xi xe xk xv xs xc xq).c, .int .i64 (Rc.mk xi xe xk xv xs xc xq).q])) := hT1
        clear hN hT1 hBk
        go_wp2_with (first | refine wpList_load_mid rfl 64 _ rfl bb (o + k * 14) rfl _ _ hrk' Tryd.underlying64 rfl infoRc ?_ | refine wpList_store_row rfl 64 _ _ rfl wr.heap.size #[.int .i64 (Rc.mk xi xe xk xv xs xc xq).ix, .int .i64 (Rc.mk xi xe xk xv xs xc xq).ep, .int .u8 (bt (Rc.mk xi xe xk xv xs xc xq).k 0), .int .u8 (bt (Rc.mk xi xe xk xv xs xc xq).k 1), .int .u8 (bt (Rc.mk xi xe xk xv xs xc xq).k 2), .int .u8 (bt (Rc.mk xi xe xk xv xs xc xq).k 3), .int .u8 (bt (Rc.mk xi xe xk xv xs xc xq).k 4), .int .u8 (bt (Rc.mk xi xe xk xv xs xc xq).k 5), .int .u8 (bt (Rc.mk xi xe xk xv xs xc xq).k 6), .int .u8 (bt (Rc.mk xi xe xk xv xs xc xq).k 7), .int .i64 (Rc.mk xi xe xk xv xs xc xq).v, .string (Rc.mk xi xe xk xv xs xc xq).s, .int .i64 (Rc.mk xi xe xk xv xs xc xq).c, .int .i64 (Rc.mk xi xe xk xv xs xc xq).q] rfl rfl _ _ hX0 infoRc rfl (by simp [Value.oneCell']) ?_ | refine wpList_load_row rfl 64 _ rfl wr.heap.size rfl _ _ _ _ hXr Tryd.underlying64 rfl infoRc ?_ | refine wpList_load_row rfl 25 _ rfl (w.heap.size + 1) rfl _ _ _ _ hb5 Tryd.underlying25 rfl infoTb ?_)
        refine hPt.mono ?_
        rintro e w8 ⟨p1, c1, q1, d1, rfl, hc8, hd8, hb8⟩
        have hT8 := HT1.out.below hb8
        clear hPt HT1 hX0 hXr y0 hrk' hb5
        have hb5 := hT8.b5
        have hnew : UW w g (t1.put (Rc.mk xi xe xk xv xs xc xq)) p1 c1 q1 d1 (w8.setRow (w.heap.size + 1) #[.int .i64 xi, .int .i64 xe, .slice p1 (putT t1.C (Ce.mk xk xv xs)).length c1, .slice q1 (putD t1.D (Rc.mk xi xe xk xv xs xc xq) 4).length d1]) := by
          have hse := hT8.sz
          have hsz1 := hT1s
          refine ⟨hT8.bel.trans (below_setRow _ _ _ (by omega)), At.same hT8.b4 ((Ch.setRow _ _ _).block _ (At.lt hT8.b4) (by omega)), hT8.b5.row _, hc8.rd.ch (Ch.setRow _ _ _) (fun h0 a ha e => by have := hc8.blk h0 ha; omega), hd8.rd.ch (Ch.setRow _ _ _) (fun h0 a ha e => by have := hd8.blk h0 ha; omega), ?_, ?_, ?_⟩
          · have h5 := At.lt (hT8.b5.row #[.int .i64 xi, .int .i64 xe, .slice p1 (putT t1.C (Ce.mk xk xv xs)).length c1, .slice q1 (putD t1.D (Rc.mk xi xe xk xv xs xc xq) 4).length d1])
            omega
          · intro h0 a ha
            have := hc8.blk h0 ha
            omega
          · intro h0 a ha
            have := hd8.blk h0 ha
            omega
        have HNW : Hid (UW w g ((Tb.mk ix ep C D).up qi (R.take (k + 1))) p1 c1 q1 d1 (w8.setRow (w.heap.size + 1) #[.int .i64 xi, .int .i64 xe, .slice p1 (putT t1.C (Ce.mk xk xv xs)).length c1, .slice q1 (putD t1.D (Rc.mk xi xe xk xv xs xc xq) 4).length d1])) := by rw [hN2]; exact hnew
        clear hnew hT8 hN2
        go_wp2_with (refine wpList_store_row rfl 25 _ _ rfl (w.heap.size + 1) #[.int .i64 xi, .int .i64 xe, .slice p1 (putT t1.C (Ce.mk xk xv xs)).length c1, .slice q1 (putD t1.D (Rc.mk xi xe xk xv xs xc xq) 4).length d1] rfl rfl _ _ hb5 infoTb rfl (by simp [Value.oneCell']) ?_)
        exact ⟨⟨k + 1, p1, c1, q1, d1, by omega, by go_num, HNW.out⟩, by simp [intOf]; omega⟩
      · as_aux_lemma =>
        have hN2 : (Tb.mk ix ep C D).up qi (R.take (k + 1)) = t1 := hN.trans (if_neg hle)
        have HN2 : Hid ((Tb.mk ix ep C D).up qi (R.take (k + 1)) = t1) := hN2
        clear hN hBk hN2
        go_wp2_with (first | refine wpList_load_mid rfl 64 _ rfl bb (o + k * 14) rfl _ _ hrk' Tryd.underlying64 rfl infoRc ?_ | refine wpList_store_row rfl 64 _ _ rfl wr.heap.size #[.int .i64 (Rc.mk xi xe xk xv xs xc xq).ix, .int .i64 (Rc.mk xi xe xk xv xs xc xq).ep, .int .u8 (bt (Rc.mk xi xe xk xv xs xc xq).k 0), .int .u8 (bt (Rc.mk xi xe xk xv xs xc xq).k 1), .int .u8 (bt (Rc.mk xi xe xk xv xs xc xq).k 2), .int .u8 (bt (Rc.mk xi xe xk xv xs xc xq).k 3), .int .u8 (bt (Rc.mk xi xe xk xv xs xc xq).k 4), .int .u8 (bt (Rc.mk xi xe xk xv xs xc xq).k 5), .int .u8 (bt (Rc.mk xi xe xk xv xs xc xq).k 6), .int .u8 (bt (Rc.mk xi xe xk xv xs xc xq).k 7), .int .i64 (Rc.mk xi xe xk xv xs xc xq).v, .string (Rc.mk xi xe xk xv xs xc xq).s, .int .i64 (Rc.mk xi xe xk xv xs xc xq).c, .int .i64 (Rc.mk xi xe xk xv xs xc xq).q] rfl rfl _ _ hX0 infoRc rfl (by simp [Value.oneCell']) ?_)
        exact ⟨⟨k + 1, cp1, cc1, dp1, dc1, by omega, by go_num, by rw [HN2.out]; exact hT1⟩, by simp [intOf]; omega⟩
    · as_aux_lemma =>
      have hki : ¬ (k : Int) < (rn : Int) := by omega
      have hRk : R.take k = R := List.take_of_length_le (by omega)
      rw [hRk] at hT
      clear hB hRk hrk0 hr0
      obtain ⟨t1, ht1⟩ : ∃ t1, (Tb.mk ix ep C D).up qi R = t1 := ⟨_, rfl⟩
      rw [ht1] at hT
      have HE : Hid ((Tb.mk ix ep C D).up qi R = t1) := ht1
      clear ht1
      have hb5 := hT.b5
      have hb4 := hT.b4
      have hbr := hb4.row #[.int .i64 t1.ix, .int .i64 t1.ep, .slice cp1 t1.C.length cc1, .slice dp1 t1.D.length dc1]
      have hbs : Below w.heap.size wr (wr.setRow w.heap.size #[.int .i64 t1.ix, .int .i64 t1.ep, .slice cp1 t1.C.length cc1, .slice dp1 t1.D.length dc1]) := below_setRow wr w.heap.size #[.int .i64 t1.ix, .int .i64 t1.ep, .slice cp1 t1.C.length cc1, .slice dp1 t1.D.length dc1] (Nat.le_refl _)
      go_wp2_with (first | refine wpList_load_row rfl 25 _ rfl (w.heap.size + 1) rfl _ _ _ _ hb5 Tryd.underlying25 rfl infoTb ?_ | refine wpList_store_row rfl 25 _ _ rfl w.heap.size #[.int .i64 t1.ix, .int .i64 t1.ep, .slice cp1 t1.C.length cc1, .slice dp1 t1.D.length dc1] rfl rfl _ _ hb4 infoTb rfl (by simp [Value.oneCell']) ?_)
      exact bodyPost_ret (v := .agg #[.int .i64 t1.ix, .int .i64 t1.ep, .slice cp1 t1.C.length cc1, .slice dp1 t1.D.length dc1]) (results_cell_row rfl _ _ w.heap.size _ _ _ _ rfl hbr Tryd.underlying25 rfl infoTb) rfl (by rw [HE.out]; exact ⟨cp1, cc1, dp1, dc1, rfl, hT.c.ch (Ch.setRow _ _ _) (fun h0 a ha e => (hT.cb h0 a ha).1 e), hT.d.ch (Ch.setRow _ _ _) (fun h0 a ha e => (hT.db h0 a ha).1 e), hT.bel.trans hbs⟩)

set_option maxRecDepth 20000 in
set_option maxHeartbeats 2000000 in
/-- The document's Last. -/
theorem rLast_any {w : World} {g : Nat} {ix ep : Int} {cp : Option Addr} {cn cc : Nat} {C : List Ce} {dp : Option Addr} {dn dc : Nat} {D : List Dn} {rp : Option Addr} {rn rc : Nat} {R : List Rc} {com : Int} (h : RX w g ix ep cp cn cc C dp dn dc D rp rn rc R com) (hrk0 : ∀ x ∈ R, x.k < 18446744073709551616) (hB : ∀ k, k ≤ rn → ((Tb.mk ix ep C D).up 1099511627776 (R.take k)).ok) :
    Calls Tryd.prog 54 #[.pointer (some ⟨g, 0, none⟩)] w fun e w1 => e = .returned (.tuple #[.int .i64 ((Tb.mk ix ep C D).up 1099511627776 R).ix, .int .i64 ((Tb.mk ix ep C D).up 1099511627776 R).ep]) ∧ Below w.heap.size w w1 := by
  have hU := rUp_any h hrk0 1099511627776 hB
  clear hB hrk0 h
  generalize (Tb.mk ix ep C D).up 1099511627776 R = t1 at *
  obtain ⟨tix, tep, tC, tD⟩ := t1
  dsimp only at hU ⊢
  go_enter Tryd.func54, Tryd.ntmps54
  go_wp2_with fail
  refine hU.mono ?_
  rintro e w8 ⟨cp1, cc1, dp1, dc1, rfl, _, _, hb8⟩
  clear hU
  have hX0 := At.new 25 w8 #[.int .i64 0, .int .i64 0, .slice none 0 0, .slice none 0 0]
  have hXr := hX0.row #[.int .i64 tix, .int .i64 tep, .slice cp1 tC.length cc1, .slice dp1 tD.length dc1]
  have hba : Below w8.heap.size w8 ((w8.alloc (.cells #[.int .i64 0, .int .i64 0, .slice none 0 0, .slice none 0 0] 25)).setRow w8.heap.size #[.int .i64 tix, .int .i64 tep, .slice cp1 tC.length cc1, .slice dp1 tD.length dc1]) := (below_alloc' w8 (.cells #[.int .i64 0, .int .i64 0, .slice none 0 0, .slice none 0 0] 25)).trans (below_setRow _ _ _ (Nat.le_refl _))
  have hb9 := hb8.trans (hba.mono hb8.size)
  have y0 := At.cell (hXr) 0
  have y1 := At.cell (hXr) 1
  simp only [List.getElem?_toArray, List.getElem?_cons_zero, List.getElem?_cons_succ] at y0 y1
  clear hba hb8 hXr
  go_wp2_with (refine wpList_store_row rfl 25 _ _ rfl w8.heap.size #[.int .i64 tix, .int .i64 tep, .slice cp1 tC.length cc1, .slice dp1 tD.length dc1] rfl rfl _ _ hX0 infoTb rfl (by simp [Value.oneCell']) ?_)
  generalize ((w8.alloc (.cells #[.int .i64 0, .int .i64 0, .slice none 0 0, .slice none 0 0] 25)).setRow w8.heap.size #[.int .i64 tix, .int .i64 tep, .slice cp1 tC.length cc1, .slice dp1 tD.length dc1]) = W9 at *
  have k0 := cell_regrown y0
  have k1 := cell_regrown y1
  clear y0 y1 hX0
  refine wp_region_quiet_below (by kernel_rfl) (by kernel_rfl) ?_
  repeat (with_reducible refine wpQuiet_step (fun K hK => ?_); go_simp; first | (with_reducible refine hK _ ?_; clear hK K) | (rw [if_neg (by decide)]; with_reducible refine hK _ ?_; clear hK K))
  with_reducible refine wpQuiet_nil ?_
  intro _ hw'
  obtain ⟨⟨dq, osq⟩, hw''⟩ := hw'
  subst hw''
  have hbz := hb9.trans ((below_regrown W9 dq osq).mono hb9.size)
  clear k0 k1
  go_wp2_with fail
  exact bodyPost_ret (v := .tuple #[.int .i64 tix, .int .i64 tep]) (by simp [results, Tryd.results54, go_sem]) rfl ⟨rfl, hbz⟩

end Go.Proofs.YtnbgdkdnlfomeaaDoor.M

namespace Go.Proofs.YtnbgdkdnlfomeaaDoor.M
open Go.ChangeShapes Go.WideShapes Go.ChangeAt Go.RowKit Go.ChangeMaps Go.MapKept Go.Maps Go.Shelf Go.Proofs
set_option linter.unusedSimpArgs false

theorem bsl_rc (c : Rc) (w : World) : (Instr.buildSlice 41 1 #[(0, .agg #[.int .i64 c.ix, .int .i64 c.ep, .int .u8 (bt c.k 0), .int .u8 (bt c.k 1), .int .u8 (bt c.k 2), .int .u8 (bt c.k 3), .int .u8 (bt c.k 4), .int .u8 (bt c.k 5), .int .u8 (bt c.k 6), .int .u8 (bt c.k 7), .int .i64 c.v, .string c.s, .int .i64 c.c, .int .i64 c.q])]).run Tryd.prog w = .ok (.slice (some ⟨w.heap.size, 0, none⟩) 1 1) (w.alloc (.cells #[.int .i64 c.ix, .int .i64 c.ep, .int .u8 (bt c.k 0), .int .u8 (bt c.k 1), .int .u8 (bt c.k 2), .int .u8 (bt c.k 3), .int .u8 (bt c.k 4), .int .u8 (bt c.k 5), .int .u8 (bt c.k 6), .int .u8 (bt c.k 7), .int .i64 c.v, .string c.s, .int .i64 c.c, .int .i64 c.q] 64)) := by
  have hu := Tryd.underlying41
  have hz := Tryd.zeroValue64
  have hs : (sizeOf 64).run Tryd.prog w = .ok 14 w := by go_simp
  simp [Instr.buildSlice, run_underlying hu, hz, hs, go_sem]

/-- A record behind others in a list of one's own. -/
theorem app_rc {W : World} {B : Nat} {p : Option Addr} {n c : Nat} {out : List Rc} (h : OwG recS 64 W B p n c out) (hB : B ≤ W.heap.size) (x : Rc) (hn : n ≤ 1000) : ∃ p9 c9 w9,
    (Builtin.append_ #[41, 41] 41 #[.slice p n c, .slice (some ⟨W.heap.size, 0, none⟩) 1 1]).run Tryd.prog (W.alloc (.cells #[.int .i64 x.ix, .int .i64 x.ep, .int .u8 (bt x.k 0), .int .u8 (bt x.k 1), .int .u8 (bt x.k 2), .int .u8 (bt x.k 3), .int .u8 (bt x.k 4), .int .u8 (bt x.k 5), .int .u8 (bt x.k 6), .int .u8 (bt x.k 7), .int .i64 x.v, .string x.s, .int .i64 x.c, .int .i64 x.q] 64)) = .ok (.slice p9 (n + 1) c9) w9 ∧
    OwG recS 64 w9 B p9 (n + 1) c9 (out ++ [x]) ∧ Below B W w9 := by
  obtain ⟨i0, hi0, hz0, hz1, hz2⟩ := info_parts infoRec
  have hb := below_alloc' W (.cells #[.int .i64 x.ix, .int .i64 x.ep, .int .u8 (bt x.k 0), .int .u8 (bt x.k 1), .int .u8 (bt x.k 2), .int .u8 (bt x.k 3), .int .u8 (bt x.k 4), .int .u8 (bt x.k 5), .int .u8 (bt x.k 6), .int .u8 (bt x.k 7), .int .i64 x.v, .string x.s, .int .i64 x.c, .int .i64 x.q] 64)
  have hr := rd_of1 recS (t := 64) W x #[.int .i64 x.ix, .int .i64 x.ep, .int .u8 (bt x.k 0), .int .u8 (bt x.k 1), .int .u8 (bt x.k 2), .int .u8 (bt x.k 3), .int .u8 (bt x.k 4), .int .u8 (bt x.k 5), .int .u8 (bt x.k 6), .int .u8 (bt x.k 7), .int .i64 x.v, .string x.s, .int .i64 x.c, .int .i64 x.q] rfl
  have h1 := h.below hb
  obtain ⟨p9, c9, w9, hrun, ho9, hch9, _⟩ := run_appG (P := Tryd.prog) (W.alloc (.cells #[.int .i64 x.ix, .int .i64 x.ep, .int .u8 (bt x.k 0), .int .u8 (bt x.k 1), .int .u8 (bt x.k 2), .int .u8 (bt x.k 3), .int .u8 (bt x.k 4), .int .u8 (bt x.k 5), .int .u8 (bt x.k 6), .int .u8 (bt x.k 7), .int .i64 x.v, .string x.s, .int .i64 x.c, .int .i64 x.q] 64)) 41 41 64 i0 _ 64 Tryd.underlying41 hi0 hz0 hz1 hz2 rfl h1 hr (by omega) (by unfold maxLen; omega) (Nat.le_trans hB hb.size)
  exact ⟨p9, c9, w9, hrun, ho9, (hb.mono hB).trans (hch9.below (Nat.le_trans hB hb.size) fun k hk => (h1.lt hk).1)⟩

/-- A record of Behind. -/
def stB (qi qm : Int) (acc : List Rc) (x : Rc) : List Rc := if x.ix > qi ∧ (acc.length : Int) < qm then acc ++ [x] else acc

def rBe (qi qm : Int) (R : List Rc) : List Rc := R.foldl (stB qi qm) []

theorem rBe_next {qi qm : Int} {R : List Rc} {k : Nat} (hk : k < R.length) : rBe qi qm (R.take (k + 1)) = stB qi qm (rBe qi qm (R.take k)) (R.getD k recS.z) := by
  unfold rBe
  rw [List.take_succ_eq_append_getElem hk, List.foldl_append, List.getD_eq_getElem?_getD, List.getElem?_eq_getElem hk]
  rfl

theorem rBe_len (qi qm : Int) : ∀ R : List Rc, (rBe qi qm R).length ≤ R.length := by
  have key : ∀ (R acc : List Rc), (R.foldl (stB qi qm) acc).length ≤ acc.length + R.length := fun R => by
    induction R with
    | nil => intro acc; simp
    | cons x R ih =>
      intro acc
      rw [List.foldl_cons]
      refine Nat.le_trans (ih _) ?_
      unfold stB
      split <;> simp <;> omega
  intro R
  have := key R []
  rw [List.length_nil, Nat.zero_add] at this
  exact this

set_option maxRecDepth 20000 in
set_option maxHeartbeats 4000000 in
/-- The document's Behind. -/
theorem rBehind_any {w : World} {g : Nat} {ix ep : Int} {cp : Option Addr} {cn cc : Nat} {C : List Ce} {dp : Option Addr} {dn dc : Nat} {D : List Dn} {rp : Option Addr} {rn rc : Nat} {R : List Rc} {com : Int} (h : RX w g ix ep cp cn cc C dp dn dc D rp rn rc R com) (hrk0 : ∀ x ∈ R, x.k < 18446744073709551616) (hB : ∀ k, k ≤ rn → ((Tb.mk ix ep C D).up 1099511627776 (R.take k)).ok) (qi qm : Int) (hno : ¬ (qi < ix ∨ ((Tb.mk ix ep C D).up 1099511627776 R).ix < qi)) :
    Calls Tryd.prog 22 #[.pointer (some ⟨g, 0, none⟩), .int .i64 qi, .int .i64 qm] w fun e w1 => ∃ p1 c1, e = .returned (.tuple #[.slice p1 (rBe qi qm R).length c1, .bool true]) ∧ RdG recS w1 p1 (rBe qi qm R).length c1 (rBe qi qm R) ∧ Below w.heap.size w w1 := by
  have hU := rLast_any h hrk0 hB
  have hn1 : decide (qi < ix) = false := by simp; omega
  have hn2 : decide (qi > ((Tb.mk ix ep C D).up 1099511627776 R).ix) = false := by simp; omega
  clear hno hB
  generalize (Tb.mk ix ep C D).up 1099511627776 R = t1 at *
  obtain ⟨tix, tep, tC, tD⟩ := t1
  dsimp only at hU hn2
  go_enter Tryd.func22, Tryd.ntmps22
  go_wp2_with fail
  refine hU.mono ?_
  rintro e w8 ⟨rfl, hb8⟩
  clear hU
  have hx8 := h.below hb8
  have hr0 := h.r
  have hnr := h.nr
  have x0 := At.cell (hx8.blk) 0
  have x4 := At.cell (hx8.blk) 4
  simp only [List.getElem?_toArray, List.getElem?_cons_zero, List.getElem?_cons_succ] at x0 x4
  clear h hx8
  go_wp2_with fail
  clear x0 x4 hn1 hn2
  have hO : OwG recS 64 w8 w.heap.size none 0 0 (rBe qi qm (R.take 0)) := OwG.none _ _ _ _
  go_loopw [35, 10] (fun i o1 wr => ∃ (k : Nat) (p : Option Addr) (c : Nat), k ≤ rn ∧ i = .int .i64 k ∧ o1 = .slice p (rBe qi qm (R.take k)).length c ∧ OwG recS 64 wr w.heap.size p (rBe qi qm (R.take k)).length c (rBe qi qm (R.take k)) ∧ Below w.heap.size w wr) (fun i _ _ => rn - (intOf i).toNat)
  case atStart => exact ⟨0, none, 0, Nat.zero_le _, rfl, rfl, hO, hb8⟩
  case round =>
    clear hO hb8
    obtain ⟨k, p, c, hk, rfl, rfl, ho, hb⟩ := hrel
    have hlen : (rBe qi qm (R.take k)).length ≤ 1000 := Nat.le_trans (rBe_len _ _ _) (by rw [List.length_take, hr0.len]; omega)
    by_cases hkn : k < rn
    · as_aux_lemma =>
      have hki : (k : Int) < (rn : Int) := by omega
      obtain ⟨bb, o, rfl, _⟩ := hr0.at (by omega)
      have hkl : k < R.length := by rw [hr0.len]; exact hkn
      have hrk' : wr.rangeAt bb (o + k * 14) [.int .i64 (R.getD k recS.z).ix, .int .i64 (R.getD k recS.z).ep, .int .u8 (bt (R.getD k recS.z).k 0), .int .u8 (bt (R.getD k recS.z).k 1), .int .u8 (bt (R.getD k recS.z).k 2), .int .u8 (bt (R.getD k recS.z).k 3), .int .u8 (bt (R.getD k recS.z).k 4), .int .u8 (bt (R.getD k recS.z).k 5), .int .u8 (bt (R.getD k recS.z).k 6), .int .u8 (bt (R.getD k recS.z).k 7), .int .i64 (R.getD k recS.z).v, .string (R.getD k recS.z).s, .int .i64 (R.getD k recS.z).c, .int .i64 (R.getD k recS.z).q] := hr0.rangeB hb hkn
      have hN := rBe_next (qi := qi) (qm := qm) hkl
      clear hrk0 hkl
      generalize rBe qi qm (R.take k) = a1 at *
      generalize R.getD k recS.z = x at *
      obtain ⟨xi, xe, xk, xv, xs, xc, xq⟩ := x
      dsimp only at hrk'
      have hX0 := At.new 64 wr #[.int .i64 0, .int .i64 0, .int .u8 0, .int .u8 0, .int .u8 0, .int .u8 0, .int .u8 0, .int .u8 0, .int .u8 0, .int .u8 0, .int .i64 0, .string ⟨#[]⟩, .int .i64 0, .int .i64 0]
      have hXr := hX0.row #[.int .i64 (Rc.mk xi xe xk xv xs xc xq).ix, .int .i64 (Rc.mk xi xe xk xv xs xc xq).ep, .int .u8 (bt (Rc.mk xi xe xk xv xs xc xq).k 0), .int .u8 (bt (Rc.mk xi xe xk xv xs xc xq).k 1), .int .u8 (bt (Rc.mk xi xe xk xv xs xc xq).k 2), .int .u8 (bt (Rc.mk xi xe xk xv xs xc xq).k 3), .int .u8 (bt (Rc.mk xi xe xk xv xs xc xq).k 4), .int .u8 (bt (Rc.mk xi xe xk xv xs xc xq).k 5), .int .u8 (bt (Rc.mk xi xe xk xv xs xc xq).k 6), .int .u8 (bt (Rc.mk xi xe xk xv xs xc xq).k 7), .int .i64 (Rc.mk xi xe xk xv xs xc xq).v, .string (Rc.mk xi xe xk xv xs xc xq).s, .int .i64 (Rc.mk xi xe xk xv xs xc xq).c, .int .i64 (Rc.mk xi xe xk xv xs xc xq).q]
      have hba : Below wr.heap.size wr ((wr.alloc (.cells #[.int .i64 0, .int .i64 0, .int .u8 0, .int .u8 0, .int .u8 0, .int .u8 0, .int .u8 0, .int .u8 0, .int .u8 0, .int .u8 0, .int .i64 0, .string ⟨#[]⟩, .int .i64 0, .int .i64 0] 64)).setRow wr.heap.size #[.int .i64 (Rc.mk xi xe xk xv xs xc xq).ix, .int .i64 (Rc.mk xi xe xk xv xs xc xq).ep, .int .u8 (bt (Rc.mk xi xe xk xv xs xc xq).k 0), .int .u8 (bt (Rc.mk xi xe xk xv xs xc xq).k 1), .int .u8 (bt (Rc.mk xi xe xk xv xs xc xq).k 2), .int .u8 (bt (Rc.mk xi xe xk xv xs xc xq).k 3), .int .u8 (bt (Rc.mk xi xe xk xv xs xc xq).k 4), .int .u8 (bt (Rc.mk xi xe xk xv xs xc xq).k 5), .int .u8 (bt (Rc.mk xi xe xk xv xs xc xq).k 6), .int .u8 (bt (Rc.mk xi xe xk xv xs xc xq).k 7), .int .i64 (Rc.mk xi xe xk xv xs xc xq).v, .string (Rc.mk xi xe xk xv xs xc xq).s, .int .i64 (Rc.mk xi xe xk xv xs xc xq).c, .int .i64 (Rc.mk xi xe xk xv xs xc xq).q]) := (below_alloc' wr (.cells #[.int .i64 0, .int .i64 0, .int .u8 0, .int .u8 0, .int .u8 0, .int .u8 0, .int .u8 0, .int .u8 0, .int .u8 0, .int .u8 0, .int .i64 0, .string ⟨#[]⟩, .int .i64 0, .int .i64 0] 64)).trans (below_setRow _ _ _ (Nat.le_refl _))
      have ho1 := ho.below hba
      have hb1 := hb.trans (hba.mono hb.size)
      dsimp only at hXr hba ho1 hb1
      have y0 := At.cell (hXr) 0
      simp only [List.getElem?_toArray, List.getElem?_cons_zero, List.getElem?_cons_succ] at y0
      clear hba ho hb
      by_cases hle : xi > qi
      · have hle1 : decide (xi > qi) = true := by simpa using hle
        by_cases hlm : (a1.length : Int) < qm
        · as_aux_lemma =>
          have hlm1 : decide ((a1.length : Int) < qm) = true := by simpa using hlm
          have hN2 : rBe qi qm (R.take (k + 1)) = a1 ++ [(Rc.mk xi xe xk xv xs xc xq)] := hN.trans (if_pos ⟨hle, hlm⟩)
          have hHN : Hid (rBe qi qm (R.take (k + 1)) = a1 ++ [(Rc.mk xi xe xk xv xs xc xq)]) := hN2
          obtain ⟨p9, c9, w9, hrun, ho9, hb9⟩ := app_rc ho1 hb1.size (Rc.mk xi xe xk xv xs xc xq) hlen
          clear hN hN2
          go_wp2_with (first | refine wpList_load_mid rfl 64 _ rfl bb (o + k * 14) rfl _ _ hrk' Tryd.underlying64 rfl infoRc ?_ | refine wpList_store_row rfl 64 _ _ rfl wr.heap.size #[.int .i64 (Rc.mk xi xe xk xv xs xc xq).ix, .int .i64 (Rc.mk xi xe xk xv xs xc xq).ep, .int .u8 (bt (Rc.mk xi xe xk xv xs xc xq).k 0), .int .u8 (bt (Rc.mk xi xe xk xv xs xc xq).k 1), .int .u8 (bt (Rc.mk xi xe xk xv xs xc xq).k 2), .int .u8 (bt (Rc.mk xi xe xk xv xs xc xq).k 3), .int .u8 (bt (Rc.mk xi xe xk xv xs xc xq).k 4), .int .u8 (bt (Rc.mk xi xe xk xv xs xc xq).k 5), .int .u8 (bt (Rc.mk xi xe xk xv xs xc xq).k 6), .int .u8 (bt (Rc.mk xi xe xk xv xs xc xq).k 7), .int .i64 (Rc.mk xi xe xk xv xs xc xq).v, .string (Rc.mk xi xe xk xv xs xc xq).s, .int .i64 (Rc.mk xi xe xk xv xs xc xq).c, .int .i64 (Rc.mk xi xe xk xv xs xc xq).q] rfl rfl _ _ hX0 infoRc rfl (by simp [Value.oneCell']) ?_ | refine wpList_load_row rfl 64 _ rfl wr.heap.size rfl _ _ _ _ hXr Tryd.underlying64 rfl infoRc ?_ | refine wpList_bslG rfl 41 1 0 _ rfl (.agg #[.int .i64 (Rc.mk xi xe xk xv xs xc xq).ix, .int .i64 (Rc.mk xi xe xk xv xs xc xq).ep, .int .u8 (bt (Rc.mk xi xe xk xv xs xc xq).k 0), .int .u8 (bt (Rc.mk xi xe xk xv xs xc xq).k 1), .int .u8 (bt (Rc.mk xi xe xk xv xs xc xq).k 2), .int .u8 (bt (Rc.mk xi xe xk xv xs xc xq).k 3), .int .u8 (bt (Rc.mk xi xe xk xv xs xc xq).k 4), .int .u8 (bt (Rc.mk xi xe xk xv xs xc xq).k 5), .int .u8 (bt (Rc.mk xi xe xk xv xs xc xq).k 6), .int .u8 (bt (Rc.mk xi xe xk xv xs xc xq).k 7), .int .i64 (Rc.mk xi xe xk xv xs xc xq).v, .string (Rc.mk xi xe xk xv xs xc xq).s, .int .i64 (Rc.mk xi xe xk xv xs xc xq).c, .int .i64 (Rc.mk xi xe xk xv xs xc xq).q]) rfl _ _ (bsl_rc (Rc.mk xi xe xk xv xs xc xq) _) ?_ | refine wpList_app_run rfl (.tmp 49) (.tmp 51) 41 rfl (.slice p a1.length c) (.slice (some ⟨((wr.alloc (.cells #[.int .i64 0, .int .i64 0, .int .u8 0, .int .u8 0, .int .u8 0, .int .u8 0, .int .u8 0, .int .u8 0, .int .u8 0, .int .u8 0, .int .i64 0, .string ⟨#[]⟩, .int .i64 0, .int .i64 0] 64)).setRow wr.heap.size #[.int .i64 (Rc.mk xi xe xk xv xs xc xq).ix, .int .i64 (Rc.mk xi xe xk xv xs xc xq).ep, .int .u8 (bt (Rc.mk xi xe xk xv xs xc xq).k 0), .int .u8 (bt (Rc.mk xi xe xk xv xs xc xq).k 1), .int .u8 (bt (Rc.mk xi xe xk xv xs xc xq).k 2), .int .u8 (bt (Rc.mk xi xe xk xv xs xc xq).k 3), .int .u8 (bt (Rc.mk xi xe xk xv xs xc xq).k 4), .int .u8 (bt (Rc.mk xi xe xk xv xs xc xq).k 5), .int .u8 (bt (Rc.mk xi xe xk xv xs xc xq).k 6), .int .u8 (bt (Rc.mk xi xe xk xv xs xc xq).k 7), .int .i64 (Rc.mk xi xe xk xv xs xc xq).v, .string (Rc.mk xi xe xk xv xs xc xq).s, .int .i64 (Rc.mk xi xe xk xv xs xc xq).c, .int .i64 (Rc.mk xi xe xk xv xs xc xq).q]).heap.size, 0, none⟩) 1 1) (by go_simp) (by go_simp) hrun ?_)
          have ha2 := hHN.out
          have hl2 : a1.length + 1 = (rBe qi qm (R.take (k + 1))).length := by rw [ha2]; simp
          rw [← ha2, hl2] at ho9
          exact ⟨⟨k + 1, p9, c9, by omega, by go_num, by rw [hl2], ho9, hb1.trans hb9⟩, by simp [intOf]; omega⟩
        · as_aux_lemma =>
          have hlm1 : decide ((a1.length : Int) < qm) = false := by simpa using hlm
          have hN2 : rBe qi qm (R.take (k + 1)) = a1 := hN.trans (if_neg fun e => hlm e.2)
          have HN2 : Hid (_ = a1) := hN2
          clear hN hN2
          go_wp2_with (first | refine wpList_load_mid rfl 64 _ rfl bb (o + k * 14) rfl _ _ hrk' Tryd.underlying64 rfl infoRc ?_ | refine wpList_store_row rfl 64 _ _ rfl wr.heap.size #[.int .i64 (Rc.mk xi xe xk xv xs xc xq).ix, .int .i64 (Rc.mk xi xe xk xv xs xc xq).ep, .int .u8 (bt (Rc.mk xi xe xk xv xs xc xq).k 0), .int .u8 (bt (Rc.mk xi xe xk xv xs xc xq).k 1), .int .u8 (bt (Rc.mk xi xe xk xv xs xc xq).k 2), .int .u8 (bt (Rc.mk xi xe xk xv xs xc xq).k 3), .int .u8 (bt (Rc.mk xi xe xk xv xs xc xq).k 4), .int .u8 (bt (Rc.mk xi xe xk xv xs xc xq).k 5), .int .u8 (bt (Rc.mk xi xe xk xv xs xc xq).k 6), .int .u8 (bt (Rc.mk xi xe xk xv xs xc xq).k 7), .int .i64 (Rc.mk xi xe xk xv xs xc xq).v, .string (Rc.mk xi xe xk xv xs xc xq).s, .int .i64 (Rc.mk xi xe xk xv xs xc xq).c, .int .i64 (Rc.mk xi xe xk xv xs xc xq).q] rfl rfl _ _ hX0 infoRc rfl (by simp [Value.oneCell']) ?_)
          exact ⟨⟨k + 1, p, c, by omega, by go_num, by rw [HN2.out], by rw [HN2.out]; exact ho1, hb1⟩, by simp [intOf]; omega⟩
      · as_aux_lemma =>
        have hle1 : decide (xi > qi) = false := by simpa using hle
        have hN2 : rBe qi qm (R.take (k + 1)) = a1 := hN.trans (if_neg fun e => hle e.1)
        have HN2 : Hid (_ = a1) := hN2
        clear hN hN2
        go_wp2_with (first | refine wpList_load_mid rfl 64 _ rfl bb (o + k * 14) rfl _ _ hrk' Tryd.underlying64 rfl infoRc ?_ | refine wpList_store_row rfl 64 _ _ rfl wr.heap.size #[.int .i64 (Rc.mk xi xe xk xv xs xc xq).ix, .int .i64 (Rc.mk xi xe xk xv xs xc xq).ep, .int .u8 (bt (Rc.mk xi xe xk xv xs xc xq).k 0), .int .u8 (bt (Rc.mk xi xe xk xv xs xc xq).k 1), .int .u8 (bt (Rc.mk xi xe xk xv xs xc xq).k 2), .int .u8 (bt (Rc.mk xi xe xk xv xs xc xq).k 3), .int .u8 (bt (Rc.mk xi xe xk xv xs xc xq).k 4), .int .u8 (bt (Rc.mk xi xe xk xv xs xc xq).k 5), .int .u8 (bt (Rc.mk xi xe xk xv xs xc xq).k 6), .int .u8 (bt (Rc.mk xi xe xk xv xs xc xq).k 7), .int .i64 (Rc.mk xi xe xk xv xs xc xq).v, .string (Rc.mk xi xe xk xv xs xc xq).s, .int .i64 (Rc.mk xi xe xk xv xs xc xq).c, .int .i64 (Rc.mk xi xe xk xv xs xc xq).q] rfl rfl _ _ hX0 infoRc rfl (by simp [Value.oneCell']) ?_)
        exact ⟨⟨k + 1, p, c, by omega, by go_num, by rw [HN2.out], by rw [HN2.out]; exact ho1, hb1⟩, by simp [intOf]; omega⟩
    · as_aux_lemma =>
      have hki : ¬ (k : Int) < (rn : Int) := by omega
      have hRk : Hid (R.take k = R) := List.take_of_length_le (by rw [hr0.len]; omega)
      clear hrk0 hr0 hlen
      have HO := ho
      go_wp2_with fail
      exact bodyPost_ret (v := .tuple #[.slice p (rBe qi qm (R.take k)).length c, .bool true]) (by simp [results, Tryd.results22, go_sem]) rfl (by rw [hRk.out] at HO ⊢; exact ⟨p, c, rfl, HO.rd, hb⟩)

set_option maxRecDepth 20000 in
set_option maxHeartbeats 2000000 in
theorem rBehind_no {w : World} {g : Nat} {ix ep : Int} {cp : Option Addr} {cn cc : Nat} {C : List Ce} {dp : Option Addr} {dn dc : Nat} {D : List Dn} {rp : Option Addr} {rn rc : Nat} {R : List Rc} {com : Int} (h : RX w g ix ep cp cn cc C dp dn dc D rp rn rc R com) (hrk0 : ∀ x ∈ R, x.k < 18446744073709551616) (hB : ∀ k, k ≤ rn → ((Tb.mk ix ep C D).up 1099511627776 (R.take k)).ok) (qi qm : Int) (hno : qi < ix ∨ ((Tb.mk ix ep C D).up 1099511627776 R).ix < qi) :
    Calls Tryd.prog 22 #[.pointer (some ⟨g, 0, none⟩), .int .i64 qi, .int .i64 qm] w fun e w1 => e = .returned (.tuple #[.slice none 0 0, .bool false]) ∧ Below w.heap.size w w1 := by
  have hU := rLast_any h hrk0 hB
  clear hB
  generalize (Tb.mk ix ep C D).up 1099511627776 R = t1 at *
  obtain ⟨tix, tep, tC, tD⟩ := t1
  dsimp only at hU hno
  go_enter Tryd.func22, Tryd.ntmps22
  go_wp2_with fail
  refine hU.mono ?_
  rintro e w8 ⟨rfl, hb8⟩
  clear hU
  have hx8 := h.below hb8
  have x0 := At.cell (hx8.blk) 0
  simp only [List.getElem?_toArray, List.getElem?_cons_zero, List.getElem?_cons_succ] at x0
  clear h hx8
  by_cases h1 : qi < ix
  · have hn1 : decide (qi < ix) = true := by simpa using h1
    go_wp2_with fail
    exact bodyPost_ret (v := .tuple #[.slice none 0 0, .bool false]) (by simp [results, Tryd.results22, go_sem]) rfl ⟨rfl, hb8⟩
  · have hn1 : decide (qi < ix) = false := by simpa using h1
    have hn2 : decide (qi > tix) = true := by simp; omega
    go_wp2_with fail
    exact bodyPost_ret (v := .tuple #[.slice none 0 0, .bool false]) (by simp [results, Tryd.results22, go_sem]) rfl ⟨rfl, hb8⟩

end Go.Proofs.YtnbgdkdnlfomeaaDoor.M

namespace Go.Proofs.YtnbgdkdnlfomeaaDoor.M
open Go.ChangeShapes Go.WideShapes Go.ChangeAt Go.RowKit Go.ChangeMaps Go.MapKept Go.Maps Go.Shelf Go.Proofs
set_option linter.unusedSimpArgs false

theorem stands_out {m : Sm} {x : Rc} (h : m.stands x = 0) : isRq x.c x.q = true ∧ x.v = ((lookC m.cs x.k).getD .z0).v + 1 := by
  unfold Sm.stands at h
  by_cases h1 : x.ix ≠ m.ix + 1
  · rw [if_pos h1] at h; omega
  rw [if_neg h1] at h
  by_cases h2 : 1099511627776 < x.ix
  · rw [if_pos h2] at h; omega
  rw [if_neg h2] at h
  by_cases h3 : x.ep < max 1 m.ep
  · rw [if_pos h3] at h; omega
  rw [if_neg h3] at h
  by_cases h4 : 1099511627776 < x.ep
  · rw [if_pos h4] at h; omega
  rw [if_neg h4] at h
  by_cases h5 : rightK x.k x.s ≠ 0
  · rw [if_pos h5] at h; exact absurd h h5
  rw [if_neg h5] at h
  by_cases h6 : isRq x.c x.q = false
  · rw [if_pos h6] at h; omega
  rw [if_neg h6] at h
  by_cases h7 : x.q ≤ (m.d x.c.toNat).q
  · rw [if_pos h7] at h; omega
  rw [if_neg h7] at h
  by_cases h8 : x.v ≠ ((lookC m.cs x.k).getD .z0).v + 1
  · rw [if_pos h8] at h; omega
  exact ⟨by simpa using h6, by omega⟩

def Sm.tab (m : Sm) : Tb := ⟨m.ix, m.ep, sortC m.cs, donL m 4⟩

theorem tab_put {m : Sm} {x : Rc} (h : m.tb) (hk : x.k < 18446744073709551616) (hs : m.stands x = 0) : m.tab.put x = (m.add x).tab := by
  have hq := (isRq_out (stands_out hs).1).2.2
  show Tb.mk x.ix x.ep (putT (sortC m.cs) ⟨x.k, x.v, x.s⟩) (putD (donL m 4) x 4) = _
  rw [putT_sort h _ hk, putD_donL h hq 4 (Nat.le_refl _)]
  rfl

theorem up_all {i : Int} : ∀ {l : List Rc} {m : Sm}, m.tb → okT m l → (∀ x ∈ l, okR x) → (∀ x ∈ l, x.ix ≤ i) → m.tab.up i l = (m.adds l).tab
  | [], _, _, _, _, _ => rfl
  | x :: l, m, h, ho, hr, hx => by
    have hc := okT_cons.1 ho
    have hk := (hr x (List.mem_cons_self ..)).1
    have e : Tb.st i m.tab x = (m.add x).tab := by unfold Tb.st; rw [if_pos (hx x (List.mem_cons_self ..)), tab_put h hk hc.1]
    show (l.foldl (Tb.st i) (Tb.st i m.tab x)) = _
    rw [e, adds_cons]
    exact up_all (h.add hk hc.1) hc.2 (fun y hy => hr y (List.mem_cons_of_mem _ hy)) fun y hy => hx y (List.mem_cons_of_mem _ hy)

theorem up_none {i : Int} : ∀ {l : List Rc} {t : Tb}, (∀ x ∈ l, i < x.ix) → t.up i l = t
  | [], _, _ => rfl
  | x :: l, t, hx => by
    have e : Tb.st i t x = t := by unfold Tb.st; rw [if_neg]; have := hx x (List.mem_cons_self ..); omega
    show (l.foldl (Tb.st i) (Tb.st i t x)) = _
    rw [e]
    exact up_none fun y hy => hx y (List.mem_cons_of_mem _ hy)

theorem Sh.inv.at {s : Sh} (h : s.inv) {i : Nat} (hi : i < s.tail.length) : (s.tail[i]).ix = s.low.ix + (i + 1 : Nat) := by
  have := h.ixs i hi
  rw [List.getD_eq_getElem?_getD, List.getElem?_eq_getElem hi] at this
  exact this

theorem Sh.inv.inTake {s : Sh} (h : s.inv) {n : Nat} {x : Rc} (hx : x ∈ s.tail.take n) : s.low.ix < x.ix ∧ x.ix ≤ s.low.ix + n := by
  obtain ⟨i, hi, rfl⟩ := List.mem_iff_getElem.1 hx
  rw [List.length_take] at hi
  rw [List.getElem_take, h.at (by omega)]
  omega

theorem Sh.inv.inDrop {s : Sh} (h : s.inv) {n : Nat} {x : Rc} (hx : x ∈ s.tail.drop n) : s.low.ix + n < x.ix ∧ x.ix ≤ s.last := by
  obtain ⟨i, hi, rfl⟩ := List.mem_iff_getElem.1 hx
  rw [List.length_drop] at hi
  rw [List.getElem_drop, h.at (by omega)]
  unfold Sh.last
  omega

theorem up_at {s : Sh} (hi : s.inv) (hg : s.g2) {j : Nat} (_hj : j ≤ s.tail.length) (k : Nat) {i : Int} (h1 : s.low.ix + j ≤ i) (h2 : j = s.tail.length ∨ i < s.low.ix + j + 1) :
    s.low.tab.up i (s.tail.take k) = (s.low.adds (s.tail.take (min j k))).tab := by
  have e : s.tail.take k = s.tail.take (min j k) ++ (s.tail.take k).drop j := by
    rw [← List.take_take, List.take_append_drop]
  rw [e]
  unfold Tb.up
  rw [List.foldl_append]
  show Tb.up (Tb.up _ i (s.tail.take (min j k))) i _ = _
  have ho := (okT_front hg.gd.ok (min j k)).1
  rw [up_all hg.tb ho (fun x hx => hg.ok x (List.mem_of_mem_take hx)) fun x hx => by have := (hi.inTake hx).2; omega]
  refine up_none fun x hx => ?_
  rw [List.drop_take] at hx
  have h3 := (hi.inDrop (List.mem_of_mem_take hx)).1
  rcases h2 with h2 | h2
  · rw [h2, List.drop_of_length_le (Nat.le_refl _), List.take_nil] at hx
    cases hx
  · omega

theorem tab_ok {s : Sh} (hg : s.g2) (k : Nat) : (s.low.adds (s.tail.take k)).tab.ok := by
  refine ⟨?_, Nat.le_trans (donL_len _ 4) (by omega), fun c hc => (tb_fit (hg.front k) c hc).1⟩
  show (sortC _).length ≤ 100
  rw [(sortC_perm _).length_eq]
  exact Nat.le_trans (hg.gd.kn.take k) (by omega)

theorem tab_look {m : Sm} (h : m.tb) (q : Nat) : lookC m.tab.C q = lookC m.cs q := lookC_perm h.ks (sortC_perm m.cs).symm q

/-- Epoch. -/
theorem ep_same {s : Sh} (hi : s.inv) (i : Int) : rEp s.low.ix s.low.ep s.tail i = if s.low.ix ≤ i ∧ i ≤ s.last then (s.epE i, true) else (0, false) := by
  unfold rEp
  by_cases h0 : i = s.low.ix
  · rw [if_pos h0, if_pos (by unfold Sh.last; omega)]
    unfold Sh.epE
    rw [h0, show (s.low.ix - s.low.ix).toNat = 0 by omega]
    rfl
  · rw [if_neg h0]
    by_cases h1 : s.low.ix ≤ i ∧ i ≤ s.last
    · rw [if_pos h1]
      obtain ⟨k, hk⟩ : ∃ k : Nat, i = s.low.ix + (k + 1 : Nat) := ⟨(i - s.low.ix).toNat - 1, by omega⟩
      have hkl : k < s.tail.length := by have := h1.2; unfold Sh.last at this; omega
      have hn : (s.tail.take k).find? (fun x => x.ix == i) = none := by
        rw [List.find?_eq_none]
        intro x hx
        have := (hi.inTake hx).2
        simp
        omega
      have hat := hi.at hkl
      have hf : s.tail.find? (fun x => x.ix == i) = some s.tail[k] := by
        have e : s.tail = s.tail.take k ++ s.tail[k] :: s.tail.drop (k + 1) := by rw [← List.drop_eq_getElem_cons hkl, List.take_append_drop]
        have h := find_app (b := s.tail[k] :: s.tail.drop (k + 1)) hn
        rw [← e] at h
        rw [h, List.find?_cons_of_pos]
        simp
        omega
      unfold pick1
      rw [hf]
      unfold Sh.epE
      rw [show (i - s.low.ix).toNat = k + 1 by omega, List.take_succ_eq_append_getElem hkl]
      unfold endS
      rw [List.getLast?_append]
      rfl
    · rw [if_neg h1]
      have hf : s.tail.find? (fun x => x.ix == i) = none := by
        rw [List.find?_eq_none]
        intro x hx
        have := hi.ixm hx
        simp
        omega
      unfold pick1
      rw [hf]

theorem okT_rq : ∀ {l : List Rc} {m : Sm}, okT m l → ∀ x ∈ l, isRq x.c x.q = true
  | [], _, _, x, hx => by cases hx
  | y :: l, m, h, x, hx => by
    have hc := okT_cons.1 h
    rcases List.mem_cons.1 hx with rfl | hx
    · exact (stands_out hc.1).1
    · exact okT_rq hc.2 x hx

/-- Known. -/
theorem kn_same {s : Sh} (hg : s.g2) (c q : Int) : rKn s.com s.tail (donL s.low 4) c q = s.knw c q := by
  have hm := (donL_mem (m := s.low) (fun i hi hq => (hg.tb.dc i hi hq).1) 4 (Nat.le_refl _)).2
  unfold rKn Sh.knw
  by_cases hr : isRq c q = true
  · rw [if_pos hr]
    obtain ⟨h0, h4, h1⟩ := isRq_out hr
    have e : pick1 (donL s.low 4) (fun d => d.c == c && d.q == q) (fun d => (d.v, true)) (0, false) = if (s.low.d c.toNat).q = q then ((s.low.d c.toNat).v, true) else (0, false) := by
      unfold pick1
      by_cases hq : (s.low.d c.toNat).q = q
      · rw [if_pos hq]
        have hin : s.low.d c.toNat ∈ donL s.low 4 := (hm _).2 ⟨c.toNat, by omega, by omega, rfl⟩
        have hcc := (hg.tb.dc c.toNat (by omega) (by omega)).1
        cases hf : (donL s.low 4).find? (fun d => d.c == c && d.q == q) with
        | none =>
          have := List.find?_eq_none.1 hf _ hin
          simp at this
          omega
        | some d =>
          have h2 := List.find?_some hf
          simp only [Bool.and_eq_true, beq_iff_eq] at h2
          obtain ⟨i, hi4, hiq, rfl⟩ := (hm d).1 (List.mem_of_find?_eq_some hf)
          have h3 := (hg.tb.dc i hi4 hiq).1
          have : i = c.toNat := by omega
          rw [this]
      · rw [if_neg hq]
        have hf : (donL s.low 4).find? (fun d => d.c == c && d.q == q) = none := by
          rw [List.find?_eq_none]
          intro d hd
          obtain ⟨i, hi4, hiq, rfl⟩ := (hm d).1 hd
          have h3 := (hg.tb.dc i hi4 hiq).1
          simp only [Bool.and_eq_true, beq_iff_eq]
          rintro ⟨h5, h6⟩
          have : i = c.toNat := by omega
          rw [this] at h6
          exact hq h6
        rw [hf]
    rw [e]
    unfold pick1 knwT
    cases s.tail.find? (fun x => x.c == c && x.q == q) <;> rfl
  · rw [if_neg hr]
    have hf1 : s.tail.find? (fun x => x.c == c && x.q == q) = none := by
      rw [List.find?_eq_none]
      intro x hx
      simp only [Bool.and_eq_true, beq_iff_eq]
      rintro ⟨h5, h6⟩
      have := okT_rq hg.gd.ok x hx
      rw [h5, h6] at this
      exact hr this
    have hf2 : (donL s.low 4).find? (fun d => d.c == c && d.q == q) = none := by
      rw [List.find?_eq_none]
      intro d hd
      obtain ⟨i, hi4, hiq, rfl⟩ := (hm d).1 hd
      have h3 := (hg.tb.dc i hi4 hiq).2.1
      simp only [Bool.and_eq_true, beq_iff_eq]
      rintro ⟨h5, h6⟩
      rw [h5, h6] at h3
      exact hr h3
    unfold pick1
    rw [hf1]
    simp only
    rw [hf2]

theorem be_low {qi qm : Int} : ∀ (l acc : List Rc), (∀ x ∈ l, x.ix ≤ qi) → l.foldl (stB qi qm) acc = acc
  | [], _, _ => rfl
  | x :: l, acc, h => by
    have e : stB qi qm acc x = acc := by unfold stB; rw [if_neg]; have := h x (List.mem_cons_self ..); omega
    rw [List.foldl_cons, e]
    exact be_low l acc fun y hy => h y (List.mem_cons_of_mem _ hy)

theorem be_up {qi qm : Int} : ∀ (l acc : List Rc), (∀ x ∈ l, x.ix > qi) → l.foldl (stB qi qm) acc = acc ++ l.take (qm - acc.length).toNat
  | [], acc, _ => by simp
  | x :: l, acc, h => by
    have hx := h x (List.mem_cons_self ..)
    rw [List.foldl_cons]
    by_cases hl : (acc.length : Int) < qm
    · have e : stB qi qm acc x = acc ++ [x] := by unfold stB; rw [if_pos ⟨hx, hl⟩]
      rw [e, be_up l _ fun y hy => h y (List.mem_cons_of_mem _ hy), List.length_append, List.length_singleton, List.append_assoc, show (qm - (acc.length : Int)).toNat = (qm - ((acc.length + 1 : Nat) : Int)).toNat + 1 by omega, List.take_succ_cons]
      rfl
    · have e : stB qi qm acc x = acc := by unfold stB; rw [if_neg]; exact fun e => hl e.2
      rw [e, be_up l _ fun y hy => h y (List.mem_cons_of_mem _ hy), show (qm - (acc.length : Int)).toNat = 0 by omega]
      rfl

/-- Behind. -/
theorem be_same {s : Sh} (hi : s.inv) {qi : Int} (qm : Int) (h : s.isAt qi) : rBe qi qm s.tail = s.beh qi qm := by
  unfold Sh.isAt Sh.last at h
  unfold Sh.beh rBe
  have e : s.tail = s.tail.take (qi - s.low.ix).toNat ++ s.tail.drop (qi - s.low.ix).toNat := (List.take_append_drop _ _).symm
  conv => lhs; rw [e]
  rw [List.foldl_append, be_low (s.tail.take (qi - s.low.ix).toNat) [] fun x hx => by have := (hi.inTake hx).2; omega, be_up (s.tail.drop (qi - s.low.ix).toNat) [] fun x hx => by have := (hi.inDrop hx).1; omega]
  simp

/-- Versions of a key rise. -/
theorem adds_v (k : Nat) : ∀ {l : List Rc} {m : Sm}, okT m l → ∀ x ∈ l, x.k = k → ((lookC m.cs k).getD .z0).v < x.v
  | [], _, _, x, hx, _ => by cases hx
  | y :: l, m, h, x, hx, hk => by
    have hc := okT_cons.1 h
    have hv := (stands_out hc.1).2
    rcases List.mem_cons.1 hx with rfl | hx
    · rw [hk] at hv; omega
    · have h2 := adds_v k hc.2 x hx hk
      have h3 : lookC (m.add y).cs k = if y.k = k then some ⟨y.k, y.v, y.s⟩ else lookC m.cs k := lookC_putC _ _ _
      rw [h3] at h2
      by_cases hy : y.k = k
      · rw [if_pos hy] at h2
        rw [hy] at hv
        have h4 : y.v < x.v := h2
        omega
      · rw [if_neg hy] at h2
        exact h2

/-- Of. -/
theorem of_same {s : Sh} (hg : s.g2) (q : Nat) (ver : Int) :
    (rOf (sortC s.low.cs) s.tail q ver).2 = (s.ofS q ver).2 ∧ (if (rOf (sortC s.low.cs) s.tail q ver).2 = true then (rOf (sortC s.low.cs) s.tail q ver).1 else ⟨#[]⟩) = (s.ofS q ver).1 := by
  have hl : lookC (sortC s.low.cs) q = lookC s.low.cs q := tab_look hg.tb q
  unfold rOf Sh.ofS
  rw [hl]
  by_cases hv : ((lookC s.low.cs q).getD .z0).v = ver
  · rw [if_pos hv]
    have hf : s.tail.find? (fun x => x.k == q && x.v == ver) = none := by
      rw [List.find?_eq_none]
      intro x hx
      simp only [Bool.and_eq_true, beq_iff_eq]
      rintro ⟨h5, h6⟩
      have := adds_v q hg.gd.ok x hx h5
      omega
    have hb : (((lookC s.low.cs q).getD .z0).v == ver) = true := by simpa using hv
    unfold pick1
    rw [hf]
    simp only [hb]
    exact ⟨trivial, if_pos trivial⟩
  · rw [if_neg hv]
    have hb : (((lookC s.low.cs q).getD .z0).v == ver) = false := by simpa using hv
    unfold pick1
    rw [hb]
    cases hf : s.tail.find? (fun x => x.k == q && x.v == ver) with
    | none => simp
    | some x => simp

end Go.Proofs.YtnbgdkdnlfomeaaDoor.M

namespace Go.Proofs.YtnbgdkdnlfomeaaDoor.M
open Go.ChangeShapes Go.WideShapes Go.ChangeAt Go.RowKit Go.ChangeMaps Go.MapKept Go.Maps Go.Shelf Go.Proofs
set_option linter.unusedSimpArgs false

/-- The document's shelf, made of a shelf's table, records and commit. -/
def AX (W : World) (g : Nat) (s : Sh) : Prop := ∃ pc cc pd cd p1 c1, RX W g s.low.ix s.low.ep pc s.low.cs.length cc (sortC s.low.cs) pd (donL s.low 4).length cd (donL s.low 4) p1 s.tail.length c1 s.tail s.com

theorem AX.below {W W' : World} {g : Nat} {s : Sh} (h : AX W g s) (hb : Below W.heap.size W W') : AX W' g s := by
  obtain ⟨pc, cc, pd, cd, p1, c1, h⟩ := h
  exact ⟨pc, cc, pd, cd, p1, c1, h.below hb⟩

theorem AX.com {W : World} {g : Nat} {s : Sh} (h : AX W g s) : W.cell? ⟨g, 5, none⟩ = some (.int .i64 s.com) := by
  obtain ⟨pc, cc, pd, cd, p1, c1, h⟩ := h
  exact At.cell h.blk 5

def Sh.epP (s : Sh) (i : Int) : Int × Bool := if s.low.ix ≤ i ∧ i ≤ s.last then (s.epE i, true) else (0, false)

theorem epochX {own : Nat → Nat} {j : Nat} {V : World} {g : Nat} {s : Sh} (h : SX own j V g s) (i : Int) :
    Calls Tryd.prog 18 #[.pointer (some ⟨g, 0, none⟩), .int .i64 i] V fun e w' => e = .returned (.tuple #[.int .i64 (s.epP i).1, .bool (s.epP i).2]) ∧ Below V.heap.size V w' := by
  obtain ⟨b, q, n, c, h⟩ := h
  unfold Sh.epP
  by_cases hi : s.low.ix ≤ i ∧ i ≤ s.last
  · rw [if_pos hi]; exact epoch_in h.sh i hi
  · rw [if_neg hi]; exact epoch_out h.sh i hi

theorem axEpoch {W : World} {g : Nat} {s : Sh} (h : AX W g s) (hi : s.inv) (i : Int) :
    Calls Tryd.prog 19 #[.pointer (some ⟨g, 0, none⟩), .int .i64 i] W fun e w' => e = .returned (.tuple #[.int .i64 (s.epP i).1, .bool (s.epP i).2]) ∧ Below W.heap.size W w' := by
  obtain ⟨pc, cc, pd, cd, p1, c1, h⟩ := h
  have h1 := rEpoch_any h i
  rw [ep_same hi i] at h1
  exact h1

theorem axKnown {W : World} {g : Nat} {s : Sh} (h : AX W g s) (hg : s.g2) (c q : Int) :
    Calls Tryd.prog 21 #[.pointer (some ⟨g, 0, none⟩), .agg #[.int .i64 c, .int .i64 q]] W fun e w' => e = .returned (.tuple #[.int .i64 (s.knw c q).1, .bool (s.knw c q).2]) ∧ Below W.heap.size W w' := by
  obtain ⟨pc, cc, pd, cd, p1, c1, h⟩ := h
  have h1 := rKnown_any h c q
  rw [kn_same hg c q] at h1
  exact h1

def Sh.bhP (s : Sh) (i m : Int) : List Rc × Bool := if s.low.ix ≤ i ∧ i ≤ s.last then (s.beh i m, true) else ([], false)

theorem behA {own : Nat → Nat} {j : Nat} {V : World} {g : Nat} {s : Sh} (h : SX own j V g s) (i m : Int) :
    Calls Tryd.prog 16 #[.pointer (some ⟨g, 0, none⟩), .int .i64 i, .int .i64 m] V fun e w' => ∃ p c, e = .returned (.tuple #[.slice p (s.bhP i m).1.length c, .bool (s.bhP i m).2]) ∧ RdG recS w' p (s.bhP i m).1.length c (s.bhP i m).1 ∧ Below V.heap.size V w' := by
  obtain ⟨b, q, n, c, h⟩ := h
  unfold Sh.bhP
  by_cases hi : s.low.ix ≤ i ∧ i ≤ s.last
  · rw [if_pos hi]
    refine (behind_in h.sh i m hi).mono ?_
    rintro e W ⟨p', c', rfl, ho, hb⟩
    exact ⟨p', c', rfl, ho.rd, hb⟩
  · rw [if_neg hi]
    refine (behind_out h.sh i m hi).mono ?_
    rintro e W ⟨rfl, hb⟩
    exact ⟨none, 0, rfl, RdG.nilR W _ _ fun _ => rfl, hb⟩

theorem up_far {s : Sh} (hi : s.inv) (hg : s.g2) (k : Nat) : s.low.tab.up 1099511627776 (s.tail.take k) = (s.low.adds (s.tail.take (min s.tail.length k))).tab :=
  up_at hi hg (Nat.le_refl _) k (by have := hi.ix1; omega) (Or.inl rfl)

theorem far_ok {s : Sh} (hi : s.inv) (hg : s.g2) : ∀ k, k ≤ s.tail.length → ((Tb.mk s.low.ix s.low.ep (sortC s.low.cs) (donL s.low 4)).up 1099511627776 (s.tail.take k)).ok := fun k _ => by
  show (s.low.tab.up 1099511627776 (s.tail.take k)).ok
  rw [up_far hi hg k]
  exact tab_ok hg _

theorem far_ix {s : Sh} (hi : s.inv) (hg : s.g2) : ((Tb.mk s.low.ix s.low.ep (sortC s.low.cs) (donL s.low 4)).up 1099511627776 s.tail).ix = s.last := by
  have h := up_far hi hg s.tail.length
  rw [List.take_length, Nat.min_self, List.take_length] at h
  show (s.low.tab.up 1099511627776 s.tail).ix = s.last
  rw [h]
  exact hi.aix

theorem axBehind {W : World} {g : Nat} {s : Sh} (h : AX W g s) (hi : s.inv) (hg : s.g2) (i m : Int) :
    Calls Tryd.prog 22 #[.pointer (some ⟨g, 0, none⟩), .int .i64 i, .int .i64 m] W fun e w' => ∃ p c, e = .returned (.tuple #[.slice p (s.bhP i m).1.length c, .bool (s.bhP i m).2]) ∧ RdG recS w' p (s.bhP i m).1.length c (s.bhP i m).1 ∧ Below W.heap.size W w' := by
  obtain ⟨pc, cc, pd, cd, p1, c1, h⟩ := h
  have hrk : ∀ x ∈ s.tail, x.k < 18446744073709551616 := fun x hx => (hg.ok x hx).1
  unfold Sh.bhP
  by_cases hx : s.low.ix ≤ i ∧ i ≤ s.last
  · rw [if_pos hx]
    have h1 := rBehind_any h hrk (far_ok hi hg) i m (by rw [far_ix hi hg]; omega)
    rw [be_same hi m hx] at h1
    exact h1
  · rw [if_neg hx]
    refine (rBehind_no h hrk (far_ok hi hg) i m (by rw [far_ix hi hg]; omega)).mono ?_
    rintro e W ⟨rfl, hb⟩
    exact ⟨none, 0, rfl, RdG.nilR W _ _ fun _ => rfl, hb⟩

theorem ofX {own : Nat → Nat} {j : Nat} {V : World} {g : Nat} {s : Sh} (h : SX own j V g s) (q : Nat) (hq : q < 18446744073709551616) (ver : Int) :
    Calls Tryd.prog 23 #[.pointer (some ⟨g, 0, none⟩), .agg #[.int .u8 (bt (q) 0), .int .u8 (bt (q) 1), .int .u8 (bt (q) 2), .int .u8 (bt (q) 3), .int .u8 (bt (q) 4), .int .u8 (bt (q) 5), .int .u8 (bt (q) 6), .int .u8 (bt (q) 7)], .int .i64 ver] V fun e w' => e = .returned (.tuple #[.string (s.ofS q ver).1, .bool (s.ofS q ver).2]) ∧ Below V.heap.size V w' := by
  obtain ⟨b, p, n, c, h⟩ := h
  exact of_any h.sh q hq ver

theorem axOf {W : World} {g : Nat} {s : Sh} (h : AX W g s) (hg : s.g2) (q : Nat) (hq : q < 18446744073709551616) (ver : Int) :
    ∃ t : ByteArray, (((s.ofS q ver).2 = true → t = (s.ofS q ver).1) ∧ ((s.ofS q ver).2 = false → (s.ofS q ver).1 = ⟨#[]⟩)) ∧
    ∀ W', Below W.heap.size W W' → Calls Tryd.prog 24 #[.pointer (some ⟨g, 0, none⟩), .agg #[.int .u8 (bt (q) 0), .int .u8 (bt (q) 1), .int .u8 (bt (q) 2), .int .u8 (bt (q) 3), .int .u8 (bt (q) 4), .int .u8 (bt (q) 5), .int .u8 (bt (q) 6), .int .u8 (bt (q) 7)], .int .i64 ver] W' fun e w' => e = .returned (.tuple #[.string t, .bool (s.ofS q ver).2]) ∧ Below W'.heap.size W' w' := by
  obtain ⟨pc, cc, pd, cd, p1, c1, h⟩ := h
  have hrk : ∀ x ∈ s.tail, x.k < 18446744073709551616 := fun x hx => (hg.ok x hx).1
  obtain ⟨e1, e2⟩ := of_same hg q ver
  refine ⟨(rOf (sortC s.low.cs) s.tail q ver).1, ⟨fun hb => ?_, fun hb => ?_⟩, fun W' hb => ?_⟩
  · rw [← e1] at hb
    rw [← e2, if_pos hb]
  · rw [← e1] at hb
    rw [← e2, if_neg (by rw [hb]; simp)]
  · have h1 := rOf_any (h.below hb) (fun c hc => (tb_fit hg.tb c hc).1) hrk q hq ver
    rw [e1] at h1
    exact h1

/-- UpTo. -/
theorem axUp {W : World} {g : Nat} {s : Sh} (h : AX W g s) (hi : s.inv) (hg : s.g2) {j : Nat} (hj : j ≤ s.tail.length) {i : Int} (h1 : s.low.ix + j ≤ i) (h2 : j = s.tail.length ∨ i < s.low.ix + j + 1) :
    Calls Tryd.prog 28 #[.pointer (some ⟨g, 0, none⟩), .int .i64 i] W fun e w' => ∃ v, e = .returned v ∧ TabR w' v (s.low.adds (s.tail.take j)) ∧ Below W.heap.size W w' := by
  obtain ⟨pc, cc, pd, cd, p1, c1, h⟩ := h
  have hrk : ∀ x ∈ s.tail, x.k < 18446744073709551616 := fun x hx => (hg.ok x hx).1
  have hU := rUp_any h hrk i fun k _ => by
    show (s.low.tab.up i (s.tail.take k)).ok
    rw [up_at hi hg hj k h1 h2]
    exact tab_ok hg _
  have he : (Tb.mk s.low.ix s.low.ep (sortC s.low.cs) (donL s.low 4)).up i s.tail = (s.low.adds (s.tail.take j)).tab := by
    have h3 := up_at hi hg hj s.tail.length h1 h2
    rw [List.take_length, Nat.min_eq_left hj] at h3
    exact h3
  rw [he] at hU
  refine hU.mono ?_
  rintro e w1 ⟨cp1, cc1, dp1, dc1, rfl, hc, hd, hb⟩
  have hl : (sortC (s.low.adds (s.tail.take j)).cs).length = (s.low.adds (s.tail.take j)).cs.length := (sortC_perm _).length_eq
  refine ⟨_, rfl, ⟨cp1, cc1, dp1, dc1, ?_, ?_, hd⟩, hb⟩
  · show Value.agg #[_, _, .slice cp1 (sortC (s.low.adds (s.tail.take j)).cs).length cc1, _] = _
    rw [hl]
    rfl
  · have hc' : RdG celS w1 cp1 (sortC (s.low.adds (s.tail.take j)).cs).length cc1 (sortC (s.low.adds (s.tail.take j)).cs) := hc
    rw [hl] at hc'
    exact hc'

/-- A key's cell in a table that was told. -/
theorem cellX {V : World} {v : Value} {m : Sm} (h : TabR V v m) (ht : m.tb) (q : Nat) (hq : q < 18446744073709551616) :
    Calls Tryd.prog 27 #[v, .agg #[.int .u8 (bt (q) 0), .int .u8 (bt (q) 1), .int .u8 (bt (q) 2), .int .u8 (bt (q) 3), .int .u8 (bt (q) 4), .int .u8 (bt (q) 5), .int .u8 (bt (q) 6), .int .u8 (bt (q) 7)]] V fun e w' => e = .returned (.agg #[.int .u8 (bt ((lookC m.cs q).getD .z0).k 0), .int .u8 (bt ((lookC m.cs q).getD .z0).k 1), .int .u8 (bt ((lookC m.cs q).getD .z0).k 2), .int .u8 (bt ((lookC m.cs q).getD .z0).k 3), .int .u8 (bt ((lookC m.cs q).getD .z0).k 4), .int .u8 (bt ((lookC m.cs q).getD .z0).k 5), .int .u8 (bt ((lookC m.cs q).getD .z0).k 6), .int .u8 (bt ((lookC m.cs q).getD .z0).k 7), .int .i64 ((lookC m.cs q).getD .z0).v, .string ((lookC m.cs q).getD .z0).s]) ∧ Below V.heap.size V w' := by
  obtain ⟨pc, cc, pd, cd, rfl, hC, hD⟩ := h
  have h1 := rCell_any (ix := m.ix) (ep := m.ep) (dp := pd) (dn := (donL m 4).length) (dc := cd) hC (Nat.le_trans ht.ln (by omega)) (fun c hc => (tb_fit ht c hc).1) q hq
  rw [show lookC (sortC m.cs) q = lookC m.cs q from tab_look ht q] at h1
  exact h1

theorem open_req {H : Type} {enc : TypeId × Value → H} {W : World} {v : Value} {d : DataW H} {p : List MemPlace}
    (h : DataW.Trod enc Tryd.prog W 0 (fun _ => true) true 30 v d p) : ∃ c q : Int, v = .agg #[.int .i64 c, .int .i64 q] := by
  obtain ⟨fuel, hf⟩ := h
  obtain ⟨c, q, _, _, e⟩ := req_cells hf
  refine ⟨c, q, ?_⟩
  cases v with
  | agg cs =>
    obtain ⟨cs⟩ := cs
    simp only [Value.cells] at e
    rw [e]
  | _ => simp [Value.cells] at e

end Go.Proofs.YtnbgdkdnlfomeaaDoor.M
