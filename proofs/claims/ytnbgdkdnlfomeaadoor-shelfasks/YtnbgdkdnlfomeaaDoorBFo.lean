/-
  Own text: committed records put into the table.
-/
import Derived.Test.YtnbgdkdnlfomeaaDoorBCut
namespace Go.Proofs.YtnbgdkdnlfomeaaDoor.M
open Go.ChangeShapes Go.WideShapes Go.ChangeAt Go.RowKit Go.ChangeMaps Go.MapKept Go.Maps Go.Shelf Go.Proofs
set_option linter.unusedSimpArgs false

theorem Sh.inv.fold {s : Sh} (h : s.inv) {k : Nat} (hk : k ≤ s.tail.length) (hc : s.low.ix + (k : Nat) ≤ s.com) : (⟨s.low.adds (s.tail.take k), s.tail.drop k, s.com⟩ : Sh).inv := by
  have hs : (⟨s.low, s.tail, s.low.ix + (k : Nat)⟩ : Sh).inv := ⟨h.ix0, h.ix1, by show s.low.ix ≤ s.low.ix + (k : Nat); omega, by show s.low.ix + (k : Nat) ≤ s.low.ix + (s.tail.length : Nat); omega, h.few, h.ixs, h.ok, h.vlo, h.vti⟩
  have ht := hs.cut (k := k) hk (Int.le_refl _)
  have hl : (s.tail.take k).length = k := by rw [List.length_take, Nat.min_eq_left hk]
  have hlast : (⟨s.low, s.tail.take k, s.low.ix + (k : Nat)⟩ : Sh).last = s.low.ix + (k : Nat) := by
    show s.low.ix + ((s.tail.take k).length : Nat) = _
    rw [hl]
  have haix : (s.low.adds (s.tail.take k)).ix = s.low.ix + (k : Nat) := ht.aix.trans hlast
  have h0 := h.ix0
  have h1 := h.ix1
  have h2 := h.few
  have h3 := h.hi
  have hd : (s.tail.drop k).length = s.tail.length - k := List.length_drop ..
  refine ⟨?_, ?_, ?_, ?_, ?_, fun i hi => ?_, fun x hx => h.ok x (List.mem_of_mem_drop hx), fun c hcm => ?_, fun x hx => h.vti x (List.mem_of_mem_drop hx)⟩
  · show 0 ≤ (s.low.adds (s.tail.take k)).ix
    rw [haix]
    omega
  · show (s.low.adds (s.tail.take k)).ix + ((s.tail.drop k).length : Nat) ≤ _
    rw [haix, hd]
    omega
  · show (s.low.adds (s.tail.take k)).ix ≤ s.com
    rw [haix]
    exact hc
  · show s.com ≤ (s.low.adds (s.tail.take k)).ix + ((s.tail.drop k).length : Nat)
    rw [haix, hd]
    omega
  · show (s.tail.drop k).length ≤ 24
    rw [hd]
    omega
  · have hi2 : i < s.tail.length - k := by rw [← hd]; exact hi
    show ((s.tail.drop k).getD i .z0).ix = (s.low.adds (s.tail.take k)).ix + ((i + 1 : Nat) : Int)
    have h5 := h.ixs (k + i) (by omega)
    rw [List.getD_eq_getElem?_getD, List.getElem?_drop, ← List.getD_eq_getElem?_getD, h5, haix]
    omega
  · have h5 := ht.ver (c := c) hcm
    rw [hlast] at h5
    show 1 ≤ c.v ∧ c.v ≤ (s.low.adds (s.tail.take k)).ix
    rw [haix]
    exact h5

/-- What Fold answers, and the shelf behind it. -/
def Sh.foldE (s : Sh) (i : Int) : Int := if i < s.low.ix then 90 else if s.com < i then 90 else 0
def Sh.foldS (s : Sh) (i : Int) : Sh := if s.foldE i = 0 then ⟨s.low.adds (s.tail.take (i - s.low.ix).toNat), s.tail.drop (i - s.low.ix).toNat, s.com⟩ else s

theorem At.sumSet {w : World} {g b b2 : Nat} {m m2 : Sm} {u v : Value} (h : At 87 w g #[.int .i64 m.ix, .int .i64 m.ep, .map (some b), .int .i64 (m.d 0).c, .int .i64 (m.d 0).q, .int .i64 (m.d 0).v, .int .i64 (m.d 1).c, .int .i64 (m.d 1).q, .int .i64 (m.d 1).v, .int .i64 (m.d 2).c, .int .i64 (m.d 2).q, .int .i64 (m.d 2).v, .int .i64 (m.d 3).c, .int .i64 (m.d 3).q, .int .i64 (m.d 3).v, u, v]) : At 87 (w.setCells g 0 #[.int .i64 m2.ix, .int .i64 m2.ep, .map (some b2), .int .i64 (m2.d 0).c, .int .i64 (m2.d 0).q, .int .i64 (m2.d 0).v, .int .i64 (m2.d 1).c, .int .i64 (m2.d 1).q, .int .i64 (m2.d 1).v, .int .i64 (m2.d 2).c, .int .i64 (m2.d 2).q, .int .i64 (m2.d 2).v, .int .i64 (m2.d 3).c, .int .i64 (m2.d 3).q, .int .i64 (m2.d 3).v].toList) g #[.int .i64 m2.ix, .int .i64 m2.ep, .map (some b2), .int .i64 (m2.d 0).c, .int .i64 (m2.d 0).q, .int .i64 (m2.d 0).v, .int .i64 (m2.d 1).c, .int .i64 (m2.d 1).q, .int .i64 (m2.d 1).v, .int .i64 (m2.d 2).c, .int .i64 (m2.d 2).q, .int .i64 (m2.d 2).v, .int .i64 (m2.d 3).c, .int .i64 (m2.d 3).q, .int .i64 (m2.d 3).v, u, v] := by
  have h2 := (At.setC (At.setC (At.setC (At.setC (At.setC (At.setC (At.setC (At.setC (At.setC (At.setC (At.setC (At.setC (At.setC (At.setC (At.setC h 0 (.int .i64 m2.ix)) 1 (.int .i64 m2.ep)) 2 (.map (some b2))) 3 (.int .i64 (m2.d 0).c)) 4 (.int .i64 (m2.d 0).q)) 5 (.int .i64 (m2.d 0).v)) 6 (.int .i64 (m2.d 1).c)) 7 (.int .i64 (m2.d 1).q)) 8 (.int .i64 (m2.d 1).v)) 9 (.int .i64 (m2.d 2).c)) 10 (.int .i64 (m2.d 2).q)) 11 (.int .i64 (m2.d 2).v)) 12 (.int .i64 (m2.d 3).c)) 13 (.int .i64 (m2.d 3).q)) 14 (.int .i64 (m2.d 3).v))
  simp only [List.setIfInBounds_toArray, List.set_cons_zero, List.set_cons_succ] at h2
  simp only [World.setCells, Nat.zero_add, Nat.reduceAdd]
  exact h2

theorem At.there {t : TypeId} {w : World} {g : Nat} {cs : Array Value} (h : At t w g cs) {o n : Nat} (hn : o + n ≤ cs.size) : w.there g o n := fun j hj =>
  ⟨by rw [At.cell h (o + j), Array.getElem?_eq_getElem (by omega)]; rfl, At.free h (o + j)⟩

set_option maxRecDepth 20000 in
set_option maxHeartbeats 1000000 in
theorem fold_any {w : World} {g b : Nat} {p : Option Addr} {n c : Nat} {s : Sh} (h : ShB w g b p n c s) (i : Int) :
    Calls Tryd.prog 31 #[.pointer (some ⟨g, 0, none⟩), .int .i64 i] w fun e w' => e = .returned (.int .i64 (s.foldE i)) ∧ ∃ b' n', GS w g b' p c p n' c (s.foldS i) w' ∧ (b' = b ∨ w.heap.size ≤ b') := by
  have hm := h.made
  have hln := h.len
  have hix0 := h.inv.ix0
  have hix1 := h.inv.ix1
  have hfew := h.inv.few
  have hhi := h.inv.hi
  have hyl : s.last = s.low.ix + (s.tail.length : Nat) := rfl
  obtain ⟨⟨c0, _⟩, _, c16⟩ := h.cells
  by_cases h1 : i < s.low.ix
  · have hE : s.foldE i = 90 := by unfold Sh.foldE; rw [if_pos h1]
    have hS : s.foldS i = s := by unfold Sh.foldS; rw [hE, if_neg (by decide)]
    rw [hE, hS]
    clear hE hS
    go_enter Tryd.func31, Tryd.ntmps31
    go_wp2_with fail
    refine hm.mono ?_
    rintro e w1 ⟨rfl, rfl⟩
    clear hm
    go_wp2_with fail
    go_ret
    exact ⟨rfl, b, n, ⟨h, Ch.refl _ _, fun k hk => Or.inl hk⟩, Or.inl rfl⟩
  · by_cases h2 : s.com < i
    · have hE : s.foldE i = 90 := by unfold Sh.foldE; rw [if_neg h1, if_pos h2]
      have hS : s.foldS i = s := by unfold Sh.foldS; rw [hE, if_neg (by decide)]
      rw [hE, hS]
      clear hE hS
      go_enter Tryd.func31, Tryd.ntmps31
      go_wp2_with fail
      refine hm.mono ?_
      rintro e w1 ⟨rfl, rfl⟩
      clear hm
      go_wp2_with fail
      go_ret
      exact ⟨rfl, b, n, ⟨h, Ch.refl _ _, fun k hk => Or.inl hk⟩, Or.inl rfl⟩
    · have hE : s.foldE i = 0 := by unfold Sh.foldE; rw [if_neg h1, if_neg h2]
      obtain ⟨k, hk⟩ : ∃ k : Nat, (i - s.low.ix) = (k : Int) := ⟨(i - s.low.ix).toNat, by omega⟩
      have hkt : (i - s.low.ix).toNat = k := by omega
      have hkn : k ≤ n := by omega
      have hS : s.foldS i = ⟨s.low.adds (s.tail.take k), s.tail.drop k, s.com⟩ := by unfold Sh.foldS; rw [hE, if_pos rfl, hkt]
      have hinv := h.inv.fold (k := k) (by omega) (by omega)
      have hU := upTo_any h i (by omega) (by omega)
      rw [hkt] at hU
      rw [hE, hS]
      clear hE hS hkt
      generalize hlow : s.low.adds (s.tail.take k) = m2 at *
      go_enter Tryd.func31, Tryd.ntmps31
      go_wp2_with fail
      refine hm.mono ?_
      rintro e w1 ⟨rfl, rfl⟩
      clear hm
      go_wp2_with fail
      refine hU.mono ?_
      rintro e w2 ⟨rfl, hb2⟩
      have hSh := h.below hb2
      have hW := with_any s.low b p k c (s.tail.take k) w2 hSh.mp (hSh.tl.rd.front hkn) (fun x hx => hSh.inv.ok x (List.mem_of_mem_take hx)) (by omega)
      rw [hlow] at hW
      obtain ⟨⟨c0, c1, c2, c3, c4, c5, c6, c7, c8, c9, c10, c11, c12, c13, c14⟩, e15, e16⟩ := hSh.cells
      clear hU c16
      go_wp2_with fail
      refine Calls.mono (by exact hW) ?_
      rintro e w3 ⟨b2, rfl, hm3, hb3, hbl3⟩
      have hSh3 := hSh.below hbl3
      have hbb3 := hb2.trans (hbl3.mono hb2.size)
      have hat3 := At.sumSet (m2 := m2) (b2 := b2) hSh3.blk
      have hgt := hSh3.gt
      have hgl := At.lt hSh.blk
      have hbg : b2 ≠ g := by omega
      have hbm : ¬ mine p c b2 := fun e => by have := (hSh.tl.lt e).2; omega
      have hch4 := Ch.setCells g #[.int .i64 m2.ix, .int .i64 m2.ep, .map (some b2), .int .i64 (m2.d 0).c, .int .i64 (m2.d 0).q, .int .i64 (m2.d 0).v, .int .i64 (m2.d 1).c, .int .i64 (m2.d 1).q, .int .i64 (m2.d 1).v, .int .i64 (m2.d 2).c, .int .i64 (m2.d 2).q, .int .i64 (m2.d 2).v, .int .i64 (m2.d 3).c, .int .i64 (m2.d 3).q, .int .i64 (m2.d 3).v].toList 0 w3
      have hm4 := hm3.kept (hch4.block b2 hm3.lt hbg)
      have htl4 := hSh3.tl.ch hch4 (fun k hk e => hgt (e ▸ hk))
      have hth : w3.there g 0 (#[.int .i64 m2.ix, .int .i64 m2.ep, .map (some b2), .int .i64 (m2.d 0).c, .int .i64 (m2.d 0).q, .int .i64 (m2.d 0).v, .int .i64 (m2.d 1).c, .int .i64 (m2.d 1).q, .int .i64 (m2.d 1).v, .int .i64 (m2.d 2).c, .int .i64 (m2.d 2).q, .int .i64 (m2.d 2).v, .int .i64 (m2.d 3).c, .int .i64 (m2.d 3).q, .int .i64 (m2.d 3).v] : Array Value).size := At.there hSh3.blk (by simp)
      generalize hW4 : w3.setCells g 0 #[.int .i64 m2.ix, .int .i64 m2.ep, .map (some b2), .int .i64 (m2.d 0).c, .int .i64 (m2.d 0).q, .int .i64 (m2.d 0).v, .int .i64 (m2.d 1).c, .int .i64 (m2.d 1).q, .int .i64 (m2.d 1).v, .int .i64 (m2.d 2).c, .int .i64 (m2.d 2).q, .int .i64 (m2.d 2).v, .int .i64 (m2.d 3).c, .int .i64 (m2.d 3).q, .int .i64 (m2.d 3).v].toList = w4 at *
      have d15 := At.cell hat3 15
      simp only [List.getElem?_toArray, List.getElem?_cons_zero, List.getElem?_cons_succ] at d15
      clear hW c1 c2 c3 c4 c5 c6 c7 c8 c9 c10 c11 c12 c13 c14 e15 e16
      go_wp2_with (refine wpList_store_mid rfl 85 _ _ rfl g 0 #[.int .i64 m2.ix, .int .i64 m2.ep, .map (some b2), .int .i64 (m2.d 0).c, .int .i64 (m2.d 0).q, .int .i64 (m2.d 0).v, .int .i64 (m2.d 1).c, .int .i64 (m2.d 1).q, .int .i64 (m2.d 1).v, .int .i64 (m2.d 2).c, .int .i64 (m2.d 2).q, .int .i64 (m2.d 2).v, .int .i64 (m2.d 3).c, .int .i64 (m2.d 3).q, .int .i64 (m2.d 3).v] rfl rfl hth infoSm (by simp [Value.oneCell']) ?_)
      refine (del_head htl4 k hkn (by omega)).mono ?_
      rintro e w5 ⟨rfl, ho5, hch5⟩
      have hat5 := At.same hat3 (hch5.block g (At.lt hat3) hgt)
      have f15 := At.free hat5 15
      have x15 := At.cell hat5 15
      simp only [List.getElem?_toArray, List.getElem?_cons_zero, List.getElem?_cons_succ] at x15
      have hm5 := hm4.kept (hch5.block b2 hm4.lt hbm)
      have hcs6 : Ch (fun k => k = g) w5 (w5.setCell ⟨g, 15, none⟩ (.slice p (n - k) c)) := Ch.setCell w5 ⟨g, 15, none⟩ _
      have hfin : GS w1 g b2 p c p (n - k) c ⟨m2, s.tail.drop k, s.com⟩ (w5.setCell ⟨g, 15, none⟩ (.slice p (n - k) c)) :=
        ⟨⟨(At.setC hat5 15 _ :), hm5.kept (heap_setC _ _ _ _ _ hbg), ho5.ch hcs6 (fun k hk e => hgt (e ▸ hk)), hinv, hgt⟩, (((Ch.of_below hbb3 _).trans (hch4.mono fun k _ e => Or.inl e)).trans (hch5.mono fun k _ e => Or.inr e)).trans (hcs6.mono fun k _ e => Or.inl e), fun k hk => Or.inl hk⟩
      have hbn : w1.heap.size ≤ b2 := Nat.le_trans hb2.size hb3
      clear hm5 hcs6 hat5 ho5 hch5 hm4 hch4 hat3 htl4 hth d15 hSh hSh3
      go_wp2_with fail
      go_ret
      exact ⟨rfl, b2, n - k, hfin, Or.inr hbn⟩

end Go.Proofs.YtnbgdkdnlfomeaaDoor.M
