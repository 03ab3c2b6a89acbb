/-
  Own text: a record more; what is committed.
-/
import Derived.Test.YtnbgdkdnlfomeaaDoorBNx
namespace Go.Proofs.YtnbgdkdnlfomeaaDoor.M
open Go.ChangeShapes Go.WideShapes Go.ChangeAt Go.RowKit Go.ChangeMaps Go.MapKept Go.Maps Go.Shelf Go.Proofs
set_option linter.unusedSimpArgs false

theorem wp_store_any {P : Program} {op : Oper} {a : Act} {w : World} {K : Act → World → Prop} {Q : Exit → Act → World → Prop} (ty : TypeId) (x y : Operand) (ho : op.op = .store ty x y) (b o : Nat) (v : Value) (u : Value)
    (hx : a.eval x = .pointer (some ⟨b, o, none⟩)) (hy : a.eval y = v) (hsz : (P.info? ty).map (·.size) = some 1) (hcv : v.cells = #[v]) (h1 : v.oneCell' = true) (hc : w.cell? ⟨b, o, none⟩ = some u) (hf : w.frozen? ⟨b, o, none⟩ = false)
    (h : K (a.put op.dst undef) (w.setCell ⟨b, o, none⟩ v)) : op.wp P a w K Q := by
  have hrun : (storeVar ty ⟨b, o, none⟩ v).run P w = .ok () (w.setCell ⟨b, o, none⟩ v) := by
    have := run_storeCells_cells (P := P) b o [v] 0 w (fun j hj => by
        match j, hj with
        | 0, _ => rw [Nat.add_zero, hc]; rfl) (fun j hj => by
        match j, hj with
        | 0, _ => exact hf) (fun u hu => by rw [List.mem_singleton.1 hu]; exact h1)
    cases hq : P.info? ty with
    | none => simp [hq] at hsz
    | some i =>
      have hs : i.size = 1 := by simpa [hq] using hsz
      simp only [Nat.add_zero] at this
      simp [storeVar, sizeOf, typeInfo, hq, hcv, hs, this, World.setCells]
  unfold Oper.wp execOp
  simp only [ho, hx, hy, Instr.storeAt, Instr.sureAddr, Sem.run_bind, Sem.run_pure, Result.andThen_ok, hrun]
  exact h

theorem sizeSl : (Tryd.prog.info? 41).map (·.size) = some 1 := by kernel_rfl
theorem infoRec : (Tryd.prog.info? 64).map (fun i => (i.zero, i.size, i.bytes)) = some (some (.agg #[.int .i64 0, .int .i64 0, .int .u8 0, .int .u8 0, .int .u8 0, .int .u8 0, .int .u8 0, .int .u8 0, .int .u8 0, .int .u8 0, .int .i64 0, .string ⟨#[]⟩, .int .i64 0, .int .i64 0]), 14, 64) := by kernel_rfl

theorem info_parts {P : Program} {t : TypeId} {z : Option Value} {s by_ : Nat} (h : (P.info? t).map (fun i => (i.zero, i.size, i.bytes)) = some (z, s, by_)) : ∃ i, P.info? t = some i ∧ i.zero = z ∧ i.size = s ∧ i.bytes = by_ := by
  cases hq : P.info? t with
  | none => rw [hq] at h; cases h
  | some i =>
    rw [hq] at h
    simp at h
    exact ⟨i, rfl, h.1, h.2.1, h.2.2⟩

/-- A slice of one record. -/
theorem rd_one {w : World} {g : Nat} {x : Rc} (h : At 64 w g #[.int .i64 x.ix, .int .i64 x.ep, .int .u8 (bt x.k 0), .int .u8 (bt x.k 1), .int .u8 (bt x.k 2), .int .u8 (bt x.k 3), .int .u8 (bt x.k 4), .int .u8 (bt x.k 5), .int .u8 (bt x.k 6), .int .u8 (bt x.k 7), .int .i64 x.v, .string x.s, .int .i64 x.c, .int .i64 x.q]) : RdG recS w (some ⟨g, 0, none⟩) 1 1 [x] := by
  refine ⟨rfl, Nat.le_refl _, (fun h => by cases h), fun _ => ⟨g, 0, rfl, fun j u hj => ?_⟩⟩
  rw [Nat.zero_add]
  have : (recS.fl [x])[j]? = (#[.int .i64 x.ix, .int .i64 x.ep, .int .u8 (bt x.k 0), .int .u8 (bt x.k 1), .int .u8 (bt x.k 2), .int .u8 (bt x.k 3), .int .u8 (bt x.k 4), .int .u8 (bt x.k 5), .int .u8 (bt x.k 6), .int .u8 (bt x.k 7), .int .i64 x.v, .string x.s, .int .i64 x.c, .int .i64 x.q] : Array Value)[j]? := by
    show ((recS.cs x) ++ [])[j]? = _
    rw [List.append_nil]
    exact (List.getElem?_toArray ..).symm
  rw [this] at hj
  rw [At.cell h j]
  exact hj

/-- What is read while a record is put: the slice in the shelf, the record in its box. -/
def RS (g : Nat) (p : Option Addr) (n c gx : Nat) (x : Rc) (W : World) : Prop := W.cell? ⟨g, 15, none⟩ = some (.slice p n c) ∧ At 64 W gx #[.int .i64 x.ix, .int .i64 x.ep, .int .u8 (bt x.k 0), .int .u8 (bt x.k 1), .int .u8 (bt x.k 2), .int .u8 (bt x.k 3), .int .u8 (bt x.k 4), .int .u8 (bt x.k 5), .int .u8 (bt x.k 6), .int .u8 (bt x.k 7), .int .i64 x.v, .string x.s, .int .i64 x.c, .int .i64 x.q]

theorem RS.ch {g : Nat} {p : Option Addr} {n c gx : Nat} {x : Rc} {W W' : World} {X : Nat → Prop} (h : RS g p n c gx x W) (hc : Ch X W W') (h1 : ¬ X g) (h2 : ¬ X gx) : RS g p n c gx x W' :=
  ⟨(hc.cell (p := ⟨g, 15, none⟩) (World.block_lt_of_cell? _ _ h.1) h1).trans h.1, At.same h.2 (hc.block gx (At.lt h.2) h2)⟩

theorem RS.of {g : Nat} {p : Option Addr} {n c gx : Nat} {x : Rc} {W W' : World} (h : RS g p n c gx x W) (hb : Bl W W') : RS g p n c gx x W' :=
  h.ch (Ch.of_below (Bl.out hb) (fun _ => False)) id id

/-- The row has been grown. -/
structure AP (w : World) (g gx : Nat) (p : Option Addr) (n c : Nat) (x : Rc) (p' : Option Addr) (n' c' : Nat) (l : List Rc) (W : World) : Prop where
  own : OwG recS 64 W 0 p' n' c' l
  ch : Ch (mine p c) w W
  new : ∀ k, mine p' c' k → mine p c k ∨ w.heap.size ≤ k
  rs : RS g p n c gx x W

theorem AP.stays (w : World) (g gx : Nat) (p : Option Addr) (n c : Nat) (x : Rc) (p' : Option Addr) (n' c' : Nat) (l : List Rc) : Stays (AP w g gx p n c x p' n' c' l) :=
  fun _ _ h hb => ⟨h.own.below hb, h.ch.trans ((Ch.of_below hb _)), h.new, h.rs.of hb⟩

/-- A shelf behind a change of its own blocks alone. -/
structure GS (w : World) (g b : Nat) (p : Option Addr) (c : Nat) (p' : Option Addr) (n' c' : Nat) (s : Sh) (W : World) : Prop where
  sh : ShB W g b p' n' c' s
  ch : Ch (fun k => k = g ∨ mine p c k) w W
  new : ∀ k, mine p' c' k → mine p c k ∨ w.heap.size ≤ k

theorem GS.stays (w : World) (g b : Nat) (p : Option Addr) (c : Nat) (p' : Option Addr) (n' c' : Nat) (s : Sh) : Stays (GS w g b p c p' n' c' s) :=
  fun _ _ h hb => ⟨h.sh.below hb, h.ch.trans (Ch.of_below hb _), h.new⟩

theorem ShB.bne {w : World} {g b : Nat} {p : Option Addr} {n c : Nat} {s : Sh} (h : ShB w g b p n c s) : b ≠ g ∧ ¬ mine p c b := by
  obtain ⟨es, ck, h2, _⟩ := h.mp.ex
  refine ⟨?_, ?_⟩
  · rintro rfl
    have h1 := h.blk
    unfold At at h1
    rw [h2] at h1
    cases h1
  · rintro ⟨h0, a, ha, rfl⟩
    rcases h.tl.own with ⟨_, h3⟩ | h3
    · omega
    · rcases h3.2 with ⟨hv, _⟩ | ⟨g', cap, cur, hv, _, hh, _⟩
      · injection hv with e1 e2 e3
        omega
      · injection hv with e1 e2 e3
        rw [ha] at e1
        cases e1
        rw [h2] at hh
        cases hh

theorem ShB.ap {w : World} {g gx b : Nat} {p : Option Addr} {n c : Nat} {s : Sh} {x : Rc} {p' : Option Addr} {n' c' : Nat} {l : List Rc} {W : World} (h : ShB w g b p n c s) (hV : AP w g gx p n c x p' n' c' l W) : At 87 W g #[.int .i64 s.low.ix, .int .i64 s.low.ep, .map (some b), .int .i64 (s.low.d 0).c, .int .i64 (s.low.d 0).q, .int .i64 (s.low.d 0).v, .int .i64 (s.low.d 1).c, .int .i64 (s.low.d 1).q, .int .i64 (s.low.d 1).v, .int .i64 (s.low.d 2).c, .int .i64 (s.low.d 2).q, .int .i64 (s.low.d 2).v, .int .i64 (s.low.d 3).c, .int .i64 (s.low.d 3).q, .int .i64 (s.low.d 3).v, .slice p n c, .int .i64 s.com] :=
  At.same h.blk (hV.ch.block g (At.lt h.blk) h.gt)

theorem ShB.grown {w : World} {g gx b : Nat} {p : Option Addr} {n c : Nat} {s : Sh} {x : Rc} {p' : Option Addr} {n' c' : Nat} {l : List Rc} {W : World} (h : ShB w g b p n c s) (hV : AP w g gx p n c x p' n' c' l W) (hinv : (⟨s.low, l, s.com⟩ : Sh).inv) :
    GS w g b p c p' n' c' ⟨s.low, l, s.com⟩ (W.setCell ⟨g, 15, none⟩ (.slice p' n' c')) := by
  have hlt := At.lt h.blk
  have hgm : ¬ mine p' c' g := fun e => by
    rcases hV.new g e with e1 | e1
    · exact h.gt e1
    · omega
  have hcs : Ch (fun k => k = g) W (W.setCell ⟨g, 15, none⟩ (.slice p' n' c')) := Ch.setCell W ⟨g, 15, none⟩ _
  obtain ⟨hb1, hb2⟩ := h.bne
  refine ⟨⟨(At.setC (h.ap hV) 15 _ :), ?_, hV.own.ch hcs (fun k hk e => hgm (e ▸ hk)), hinv, hgm⟩, (hV.ch.mono fun k _ e => Or.inr e).trans (hcs.mono fun k _ e => Or.inl e), hV.new⟩
  exact (h.mp.kept (hV.ch.block b h.mp.lt hb2)).kept (heap_setC _ _ _ _ _ hb1)

/-- What Add tells. -/
def Sh.addE (s : Sh) (x : Rc) : Int := if (s.low.adds s.tail).stands x ≠ 0 then (s.low.adds s.tail).stands x else if 24 ≤ s.tail.length then 7 else 0

/-- The shelf behind it. -/
def Sh.addS (s : Sh) (x : Rc) : Sh := if s.addE x = 0 then ⟨s.low, s.tail ++ [x], s.com⟩ else s

/-- A record that may stand behind sums. -/
theorem stands_ok {m : Sm} {x : Rc} (h : m.stands x = 0) : x.ix = m.ix + 1 ∧ x.ix ≤ 1099511627776 ∧ max 1 m.ep ≤ x.ep ∧ x.ep ≤ 1099511627776 ∧ rightK x.k x.s = 0 ∧ isRq x.c x.q = true ∧ (m.d x.c.toNat).q < x.q ∧ x.v = ((lookC m.cs x.k).getD .z0).v + 1 ∧ ¬ ((lookC m.cs x.k).isSome = false ∧ 12 ≤ m.cs.length) := by
  unfold Sm.stands at h
  split at h
  · cases h
  · next c1 =>
    split at h
    · cases h
    · next c2 =>
      split at h
      · cases h
      · next c3 =>
        split at h
        · cases h
        · next c4 =>
          split at h
          · next c5 => exact absurd h c5
          · next c5 =>
            split at h
            · cases h
            · next c6 =>
              split at h
              · cases h
              · next c7 =>
                split at h
                · cases h
                · next c8 =>
                  split at h
                  · cases h
                  · next c9 =>
                    refine ⟨Decidable.not_not.1 c1, by omega, by omega, by omega, Decidable.not_not.1 c5, by simpa using c6, by omega, Decidable.not_not.1 c8, c9⟩

theorem Sh.inv.add {s : Sh} (h : s.inv) {x : Rc} (hk : x.k < 18446744073709551616) (hx : (s.low.adds s.tail).stands x = 0) (hf : s.tail.length < 24) : (⟨s.low, s.tail ++ [x], s.com⟩ : Sh).inv := by
  obtain ⟨h1, h2, _, _, _, h6, _, h8, _⟩ := stands_ok hx
  rw [h.aix] at h1
  have ht := h.top x.k
  have hl : s.last = s.low.ix + (s.tail.length : Nat) := rfl
  have h0 := h.ix0
  have hhi := h.hi
  unfold isRq at h6
  simp only [Bool.and_eq_true, decide_eq_true_eq] at h6
  have hlen : (s.tail ++ [x]).length = s.tail.length + 1 := by simp
  refine ⟨h.ix0, ?_, h.lo, ?_, ?_, fun i hi => ?_, fun y hy => ?_, h.vlo, fun y hy => ?_⟩
  · show s.low.ix + ((s.tail ++ [x]).length : Nat) ≤ _
    rw [hlen]
    omega
  · show s.com ≤ s.low.ix + ((s.tail ++ [x]).length : Nat)
    rw [hlen]
    omega
  · show (s.tail ++ [x]).length ≤ 24
    rw [hlen]
    omega
  · have hi2 : i < s.tail.length + 1 := by rw [← hlen]; exact hi
    show ((s.tail ++ [x]).getD i .z0).ix = s.low.ix + ((i + 1 : Nat) : Int)
    rcases Nat.lt_or_ge i s.tail.length with hlt | hge
    · have := h.ixs i hlt
      rw [List.getD_eq_getElem?_getD, List.getElem?_append_left hlt, ← List.getD_eq_getElem?_getD]
      exact this
    · obtain rfl : i = s.tail.length := by omega
      rw [List.getD_eq_getElem?_getD, List.getElem?_append_right (Nat.le_refl _), Nat.sub_self]
      show x.ix = _
      omega
  · rcases List.mem_append.1 hy with hy | hy
    · exact h.ok y hy
    · rw [List.mem_singleton.1 hy]
      exact ⟨hk, by omega, by omega⟩
  · rcases List.mem_append.1 hy with hy | hy
    · exact h.vti y hy
    · rw [List.mem_singleton.1 hy]
      omega

set_option maxRecDepth 20000 in
set_option maxHeartbeats 4000000 in
theorem add_any {w : World} {g b : Nat} {p : Option Addr} {n c : Nat} {s : Sh} (h : ShB w g b p n c s) (x : Rc) (hk : x.k < 18446744073709551616) (hxs : x.s.size ≤ 9223372036854775807) (hT : Tabs w) :
    Calls Tryd.prog 37 #[.pointer (some ⟨g, 0, none⟩), .agg #[.int .i64 x.ix, .int .i64 x.ep, .int .u8 (bt x.k 0), .int .u8 (bt x.k 1), .int .u8 (bt x.k 2), .int .u8 (bt x.k 3), .int .u8 (bt x.k 4), .int .u8 (bt x.k 5), .int .u8 (bt x.k 6), .int .u8 (bt x.k 7), .int .i64 x.v, .string x.s, .int .i64 x.c, .int .i64 x.q]] w fun e w' => e = .returned (.int .i64 (s.addE x)) ∧ ∃ p' n' c', GS w g b p c p' n' c' (s.addS x) w' := by
  obtain ⟨i0, hi0, hz0, hz1, hz2⟩ := info_parts infoRec
  have hb0 := below_alloc' w (.cells #[.int .i64 x.ix, .int .i64 x.ep, .int .u8 (bt x.k 0), .int .u8 (bt x.k 1), .int .u8 (bt x.k 2), .int .u8 (bt x.k 3), .int .u8 (bt x.k 4), .int .u8 (bt x.k 5), .int .u8 (bt x.k 6), .int .u8 (bt x.k 7), .int .i64 x.v, .string x.s, .int .i64 x.c, .int .i64 x.q] 64)
  have hX : At 64 (w.alloc (.cells #[.int .i64 x.ix, .int .i64 x.ep, .int .u8 (bt x.k 0), .int .u8 (bt x.k 1), .int .u8 (bt x.k 2), .int .u8 (bt x.k 3), .int .u8 (bt x.k 4), .int .u8 (bt x.k 5), .int .u8 (bt x.k 6), .int .u8 (bt x.k 7), .int .i64 x.v, .string x.s, .int .i64 x.c, .int .i64 x.q] 64)) w.heap.size #[.int .i64 x.ix, .int .i64 x.ep, .int .u8 (bt x.k 0), .int .u8 (bt x.k 1), .int .u8 (bt x.k 2), .int .u8 (bt x.k 3), .int .u8 (bt x.k 4), .int .u8 (bt x.k 5), .int .u8 (bt x.k 6), .int .u8 (bt x.k 7), .int .i64 x.v, .string x.s, .int .i64 x.c, .int .i64 x.q] := At.new _ w _
  have hSh0 := h.below hb0
  have hT0 := hT.up hb0
  have hm := hSh0.made
  have haix := h.inv.aix
  have hbig := h.inv.big
  have htop := h.inv.top x.k
  have hgm : ∀ k, mine p c k → k < w.heap.size := fun k hk => (h.tl.lt hk).2
  have hS := stands_any hSh0 x hk hxs hT0 (by rw [haix]; omega) (by omega)
  have hln := h.len
  have hgl := At.lt h.blk
  generalize hrr : s.addE x = r
  generalize hss : s.addS x = s'
  have HE : Hid (r = if (s.low.adds s.tail).stands x ≠ 0 then (s.low.adds s.tail).stands x else if 24 ≤ s.tail.length then 7 else 0) := hrr.symm
  have HS : Hid (s' = if r = 0 then ⟨s.low, s.tail ++ [x], s.com⟩ else s) := by unfold Hid; rw [← hss, ← hrr]; rfl
  have HI : Hid ((s.low.adds s.tail).stands x = 0 → s.tail.length < 24 → (⟨s.low, s.tail ++ [x], s.com⟩ : Sh).inv) := fun h1 h2 => h.inv.add hk h1 h2
  clear hrr hss hT hT0 haix hbig htop
  generalize (s.low.adds s.tail).stands x = r1 at *
  go_enter Tryd.func37, Tryd.ntmps37
  go_wp2_with fail
  generalize (w.alloc (.cells #[.int .i64 x.ix, .int .i64 x.ep, .int .u8 (bt x.k 0), .int .u8 (bt x.k 1), .int .u8 (bt x.k 2), .int .u8 (bt x.k 3), .int .u8 (bt x.k 4), .int .u8 (bt x.k 5), .int .u8 (bt x.k 6), .int .u8 (bt x.k 7), .int .i64 x.v, .string x.s, .int .i64 x.c, .int .i64 x.q] 64)) = W0 at *
  refine hm.mono ?_
  rintro e W1 ⟨rfl, rfl⟩
  clear hm
  obtain ⟨x0, x1, x2, x3, x4, x5, x6, x7, x8, x9, x10, x11, x12, x13⟩ := rec_box hX
  go_wp2_with fail
  refine hS.mono ?_
  rintro e V0 ⟨rfl, hb1⟩
  have hbb := hb0.trans (hb1.mono hb0.size)
  have hSh := hSh0.below hb1
  have hX1 := At.below hX hb1
  have f15 := hSh.cells.2.1
  clear hS x0 x1 x2 x3 x4 x5 x6 x7 x8 x9 x10 x11 x12 x13 hX hSh0 hb0 hb1
  have hnone : ∀ s'' : Sh, s'' = s → GS w g b p c p n c s'' V0 := fun s'' e => by
    subst e
    exact ⟨hSh, Ch.of_below hbb _, fun k hk => Or.inl hk⟩
  by_cases c1 : r1 = 0
  · subst c1
    by_cases c2 : 24 ≤ n
    · have HN : Hid (r = 7 ∧ s' = s) := by
        unfold Hid
        have e1 : r = 7 := by rw [HE.out, if_neg (fun h => h rfl), if_pos (by omega)]
        exact ⟨e1, by rw [HS.out, if_neg (by rw [e1]; decide)]⟩
      have c3 : (24 : Int) ≤ (n : Int) := by omega
      clear HE HS HI
      go_wp2_with fail
      go_ret
      obtain ⟨rfl, rfl⟩ := HN.out
      exact ⟨rfl, p, n, c, hnone _ rfl⟩
    · have HN : Hid (r = 0 ∧ s' = ⟨s.low, s.tail ++ [x], s.com⟩) := by
        unfold Hid
        have e1 : r = 0 := by rw [HE.out, if_neg (fun h => h rfl), if_neg (by omega)]
        exact ⟨e1, by rw [HS.out, if_pos e1]⟩
      have hinv := HI.out rfl (by omega)
      have c3 : ¬ (24 : Int) ≤ (n : Int) := by omega
      clear HE HS HI hnone
      go_wp2_with fail
      have hRS : RS g p n c w.heap.size x V0 := ⟨f15, hX1⟩
      have hgxm : ¬ mine p c w.heap.size := fun e => Nat.lt_irrefl _ (hgm _ e)
      have hS0 : Bl V0 V0.drew := (Below.refl _ _).drew
      refine wp_region_det [0, 1, 2, 3, 4, 5] (RS g p n c w.heap.size x) (Bl V0) (by kernel_rfl) hS0 ?_
      refine wpDet_take ?vW0 (Bl.stays V0) (fun _ h => hRS.of h) (i := 0) rfl (by kernel_rfl) (by kernel_rfl) (by kernel_rfl) (by kernel_rfl) (fun _ _ _ h => h) (Gives.value (by rfl) ?yW0) ?rW0
      case yW0 => (intro w' hSw; (try dsimp only at hSw); go_simp; try with_reducible rfl)
      (try simp only [Act.put, List.getElem_toArray, List.getElem_cons_zero, List.getElem_cons_succ, List.setIfInBounds_toArray, List.set_cons_zero, List.set_cons_succ])
      refine wpDet_take ?vW1 (Bl.stays V0) (fun _ h => hRS.of h) (i := 1) rfl (by kernel_rfl) (by kernel_rfl) (by kernel_rfl) (by kernel_rfl) (fun _ _ _ h => h) (Gives.value (by rfl) ?yW1) ?rW1
      case yW1 => (intro w' hSw; (try dsimp only at hSw); go_simp; try with_reducible rfl)
      (try simp only [Act.put, List.getElem_toArray, List.getElem_cons_zero, List.getElem_cons_succ, List.setIfInBounds_toArray, List.set_cons_zero, List.set_cons_succ])
      refine wpDet_take ?vW2 (Bl.stays V0) (fun _ h => hRS.of h) (i := 2) rfl (by kernel_rfl) (by kernel_rfl) (by kernel_rfl) (by kernel_rfl) (fun _ _ _ h => h) (Gives.value (by rfl) ?yW2) ?rW2
      case yW2 => (intro w' hSw; (try dsimp only at hSw); go_simp; try with_reducible rfl)
      (try simp only [Act.put, List.getElem_toArray, List.getElem_cons_zero, List.getElem_cons_succ, List.setIfInBounds_toArray, List.set_cons_zero, List.set_cons_succ])
      refine wpDet_take ?vW3 (Bl.stays V0) (fun _ h => hRS.of h) (i := 3) rfl (by kernel_rfl) (by kernel_rfl) (by kernel_rfl) (by kernel_rfl) (fun _ _ _ h => h) (Gives.value (by rfl) ?yW3) ?rW3
      case yW3 => (intro w' hSw; (try dsimp only at hSw); go_simp; try with_reducible rfl)
      (try simp only [Act.put, List.getElem_toArray, List.getElem_cons_zero, List.getElem_cons_succ, List.setIfInBounds_toArray, List.set_cons_zero, List.set_cons_succ])
      refine wpDet_take ?vW4 (Bl.stays V0) (fun _ h => hRS.of h) (i := 4) rfl (by kernel_rfl) (by kernel_rfl) (by kernel_rfl) (by kernel_rfl) (fun _ _ _ h => h) (Gives.value (by rfl) ?yW4) ?rW4
      case yW4 => (intro w' hSw; have zz15 := (show RS g p n c w.heap.size x w' from hSw).1; (try dsimp only at hSw); go_simp; try with_reducible rfl)
      (try simp only [Act.put, List.getElem_toArray, List.getElem_cons_zero, List.getElem_cons_succ, List.setIfInBounds_toArray, List.set_cons_zero, List.set_cons_succ])
      refine wpDet_take ?vW5 (Bl.stays V0) (fun _ h => hRS.of h) (i := 5) rfl (by kernel_rfl) (by kernel_rfl) (by kernel_rfl) (by kernel_rfl) (fun _ _ _ h => h) (Gives.value (by rfl) ?yW5) ?rW5
      case yW5 => (intro w' hSw; obtain ⟨y0, y1, y2, y3, y4, y5, y6, y7, y8, y9, y10, y11, y12, y13⟩ := rec_box (show RS g p n c w.heap.size x w' from hSw).2; (try dsimp only at hSw); go_simp; try with_reducible rfl)
      (try simp only [Act.put, List.getElem_toArray, List.getElem_cons_zero, List.getElem_cons_succ, List.setIfInBounds_toArray, List.set_cons_zero, List.set_cons_succ])
      refine wpDet_ready (rs := [6]) (by kernel_rfl) (by simp) (AllDet.cons rfl (fun V hV K hK => ?_) AllDet.nil)
      rw [if_pos (by rfl)]
      refine wp_value (.slice (some ⟨V.heap.size, 0, none⟩) 1 1) (V.alloc (.cells #[.int .i64 x.ix, .int .i64 x.ep, .int .u8 (bt x.k 0), .int .u8 (bt x.k 1), .int .u8 (bt x.k 2), .int .u8 (bt x.k 3), .int .u8 (bt x.k 4), .int .u8 (bt x.k 5), .int .u8 (bt x.k 6), .int .u8 (bt x.k 7), .int .i64 x.v, .string x.s, .int .i64 x.c, .int .i64 x.q] 64)) (by first | (go_simp; done) | (go_simp; rfl)) ?_
      have hz7 : NB V0 V.heap.size x (V.alloc (.cells #[.int .i64 x.ix, .int .i64 x.ep, .int .u8 (bt x.k 0), .int .u8 (bt x.k 1), .int .u8 (bt x.k 2), .int .u8 (bt x.k 3), .int .u8 (bt x.k 4), .int .u8 (bt x.k 5), .int .u8 (bt x.k 6), .int .u8 (bt x.k 7), .int .i64 x.v, .string x.s, .int .i64 x.c, .int .i64 x.q] 64)) := ⟨Bl.stays V0 V _ hV (below_alloc' _ _), At.new _ _ _, (Bl.out hV).size⟩
      refine hK.out (NB V0 V.heap.size x) _ _ (NB.stays _ _ _) (fun _ _ h => hRS.of h.1) hz7 ?_
      clear hK hz7
      obtain ⟨gr, hgr⟩ : ∃ gr, gr = V.heap.size := ⟨_, rfl⟩
      rw [← hgr]
      clear hV hgr
      (try simp only [Act.put, List.getElem_toArray, List.getElem_cons_zero, List.getElem_cons_succ, List.setIfInBounds_toArray, List.set_cons_zero, List.set_cons_succ])
      refine wpDet_ready (rs := [7]) (by kernel_rfl) (by simp) (AllDet.cons rfl (fun V hV K hK => ?_) AllDet.nil)
      rw [if_pos (by rfl)]
      obtain ⟨p9, c9, w9, hrun, ho9, hch9, hnew9⟩ := run_appG (P := Tryd.prog) V 41 41 64 i0 _ 64 Tryd.underlying41 hi0 hz0 hz1 hz2 rfl (hSh.tl.below (Bl.out hV.1)) (rd_one hV.2.1) (by omega) (by unfold maxLen; omega) (Nat.zero_le _)
      refine wp_app _ _ _ rfl _ _ rfl rfl _ w9 hrun ?_
      have hz9 : AP V0 g w.heap.size p n c x p9 (n + 1) c9 (s.tail ++ [x]) w9 := ⟨ho9, (Ch.of_below (Bl.out hV.1) _).trans hch9, fun k hk => (hnew9 k hk).imp id (fun h => Nat.le_trans (Bl.out hV.1).size h), (hRS.of hV.1).ch hch9 hSh.gt (fun h => hgxm h)⟩
      refine hK.out (AP V0 g w.heap.size p n c x p9 (n + 1) c9 (s.tail ++ [x])) _ _ (AP.stays _ _ _ _ _ _ _ _ _ _ _) (fun _ _ h => h.rs) hz9 ?_
      clear hK K hV hrun ho9 hch9 hnew9 hz9
      (try simp only [Act.put, List.getElem_toArray, List.getElem_cons_zero, List.getElem_cons_succ, List.setIfInBounds_toArray, List.set_cons_zero, List.set_cons_succ])
      refine wpDet_ready (rs := [8]) (by kernel_rfl) (by simp) (AllDet.cons rfl (fun V hV K hK => ?_) AllDet.nil)
      rw [if_pos (by rfl)]
      refine wp_value (.pointer (some ⟨g, 0, none⟩)) V (by first | (go_simp; done) | (go_simp; rfl)) ?_
      refine hK.out (AP V0 g w.heap.size p n c x p9 (n + 1) c9 (s.tail ++ [x])) _ _ (AP.stays _ _ _ _ _ _ _ _ _ _ _) (fun _ _ h => h.rs) hV ?_
      clear hK K hV
      (try simp only [Act.put, List.getElem_toArray, List.getElem_cons_zero, List.getElem_cons_succ, List.setIfInBounds_toArray, List.set_cons_zero, List.set_cons_succ])
      refine wpDet_ready (rs := [9]) (by kernel_rfl) (by simp) (AllDet.cons rfl (fun V hV K hK => ?_) AllDet.nil)
      rw [if_pos (by rfl)]
      refine wp_value (.pointer (some ⟨g, 15, none⟩)) V (by first | (go_simp; done) | (go_simp; rfl)) ?_
      refine hK.out (AP V0 g w.heap.size p n c x p9 (n + 1) c9 (s.tail ++ [x])) _ _ (AP.stays _ _ _ _ _ _ _ _ _ _ _) (fun _ _ h => h.rs) hV ?_
      clear hK K hV
      (try simp only [Act.put, List.getElem_toArray, List.getElem_cons_zero, List.getElem_cons_succ, List.setIfInBounds_toArray, List.set_cons_zero, List.set_cons_succ])
      refine wpDet_ready (rs := [10]) (by kernel_rfl) (by simp) (AllDet.cons rfl (fun V hV K hK => ?_) AllDet.nil)
      rw [if_pos (by rfl)]
      have hz9 := hSh.grown hV hinv
      refine wp_store_any 41 _ _ rfl g 15 (.slice p9 (n + 1) c9) _ rfl rfl sizeSl rfl rfl hV.rs.1 (At.free (hSh.ap hV) 15) ?_
      refine hK.out (GS V0 g b p c p9 (n + 1) c9 ⟨s.low, s.tail ++ [x], s.com⟩) _ _ (GS.stays _ _ _ _ _ _ _ _ _) (no_lean (by kernel_rfl)) hz9 ?_
      clear hK K hV hz9
      (try simp only [Act.put, List.getElem_toArray, List.getElem_cons_zero, List.getElem_cons_succ, List.setIfInBounds_toArray, List.set_cons_zero, List.set_cons_succ])
      refine wpDet_done (by kernel_rfl) (fun W9 hV => ?_) _
      obtain ⟨hs9, hc9, hn9⟩ := hV
      go_wp2_with fail
      go_ret
      obtain ⟨rfl, rfl⟩ := HN.out
      exact ⟨rfl, p9, n + 1, c9, hs9, (Ch.of_below hbb _).trans hc9, fun k hk => (hn9 k hk).imp id (fun h => Nat.le_trans hbb.size h)⟩
  · have HN : Hid (r = r1 ∧ s' = s) := by
      unfold Hid
      have e1 : r = r1 := by rw [HE.out, if_pos c1]
      exact ⟨e1, by rw [HS.out, if_neg (by rw [e1]; exact c1)]⟩
    clear HE HS HI
    go_wp2_with fail
    go_ret
    obtain ⟨rfl, rfl⟩ := HN.out
    exact ⟨rfl, p, n, c, hnone _ rfl⟩

end Go.Proofs.YtnbgdkdnlfomeaaDoor.M
