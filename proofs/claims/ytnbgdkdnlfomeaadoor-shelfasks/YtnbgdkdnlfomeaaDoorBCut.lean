/-
  Own text: records let go.
-/
import Derived.Test.YtnbgdkdnlfomeaaDoorBDel
import Derived.Test.YtnbgdkdnlfomeaaDoorBAw0
namespace Go.Proofs.YtnbgdkdnlfomeaaDoor.M
open Go.ChangeShapes Go.WideShapes Go.ChangeAt Go.RowKit Go.ChangeMaps Go.MapKept Go.Maps Go.Shelf Go.Proofs
set_option linter.unusedSimpArgs false

/-- slices.Delete to the end. -/
theorem del_end {w : World} {B n c : Nat} {p : Option Addr} {l : List Rc} (ho : OwG recS 64 w B p n c l) (k : Nat) (hk : k ≤ n) (hn : n ≤ 1000) :
    Calls Tryd.prog 57 #[.slice p n c, .int .i64 k, .int .i64 n] w fun e w' => e = .returned (.slice p k c) ∧ OwG recS 64 w' B p k c (l.take k) ∧ Ch (mine p c) w w' := by
  have hl := ho.len
  have hcap := ho.rd.cap
  by_cases hkn : k = n
  · subst hkn
    refine (del_same k (Nat.le_refl _) hcap).mono fun e w' ⟨h1, h2⟩ => ⟨h1, ?_, Ch.of_below h2 _⟩
    rw [List.take_of_length_le (by omega)]
    exact ho.below h2
  · rcases ho.ptr with ⟨h1, h2⟩ | ⟨g, rfl⟩
    · omega
    · have h := del_some ho k n (by omega) (Nat.le_refl _) hn
      rw [Nat.sub_self, Nat.add_zero, List.drop_of_length_le (by omega), List.append_nil] at h
      exact h

/-- slices.Delete from the start. -/
theorem del_head {w : World} {B n c : Nat} {p : Option Addr} {l : List Rc} (ho : OwG recS 64 w B p n c l) (k : Nat) (hk : k ≤ n) (hn : n ≤ 1000) :
    Calls Tryd.prog 57 #[.slice p n c, .int .i64 0, .int .i64 k] w fun e w' => e = .returned (.slice p (n - k) c) ∧ OwG recS 64 w' B p (n - k) c (l.drop k) ∧ Ch (mine p c) w w' := by
  have hl := ho.len
  have hcap := ho.rd.cap
  by_cases hkn : k = 0
  · subst hkn
    exact (del_same 0 (Nat.zero_le _) hcap).mono fun e w' ⟨h1, h2⟩ => ⟨h1, ho.below h2, Ch.of_below h2 _⟩
  · rcases ho.ptr with ⟨h1, h2⟩ | ⟨g, rfl⟩
    · omega
    · have h := del_some ho 0 k (by omega) hk hn
      rw [Nat.zero_add, List.take_zero, List.nil_append] at h
      exact h

/-- What is read while records are let go. -/
def RC (g : Nat) (p : Option Addr) (n c : Nat) (x : Int) (W : World) : Prop := W.cell? ⟨g, 15, none⟩ = some (.slice p n c) ∧ W.cell? ⟨g, 0, none⟩ = some (.int .i64 x)

theorem RC.ch {g : Nat} {p : Option Addr} {n c : Nat} {x : Int} {W W' : World} {X : Nat → Prop} (h : RC g p n c x W) (hc : Ch X W W') (h1 : ¬ X g) : RC g p n c x W' :=
  ⟨(hc.cell (p := ⟨g, 15, none⟩) (World.block_lt_of_cell? _ _ h.1) h1).trans h.1, (hc.cell (p := ⟨g, 0, none⟩) (World.block_lt_of_cell? _ _ h.2) h1).trans h.2⟩

theorem RC.of {g : Nat} {p : Option Addr} {n c : Nat} {x : Int} {W W' : World} (h : RC g p n c x W) (hb : Bl W W') : RC g p n c x W' :=
  h.ch (Ch.of_below (Bl.out hb) (fun _ => False)) id

/-- The row has been cut. -/
structure AC (w : World) (p : Option Addr) (c n' : Nat) (l : List Rc) (W : World) : Prop where
  own : OwG recS 64 W 0 p n' c l
  ch : Ch (mine p c) w W

theorem AC.stays (w : World) (p : Option Addr) (c n' : Nat) (l : List Rc) : Stays (AC w p c n' l) :=
  fun _ _ h hb => ⟨h.own.below hb, h.ch.trans (Ch.of_below hb _)⟩

theorem ShB.cutD {w : World} {g b : Nat} {p : Option Addr} {n c : Nat} {s : Sh} {n' : Nat} {l : List Rc} {W : World} (h : ShB w g b p n c s) (hV : AC w p c n' l W) (hinv : (⟨s.low, l, s.com⟩ : Sh).inv) :
    GS w g b p c p n' c ⟨s.low, l, s.com⟩ (W.setCell ⟨g, 15, none⟩ (.slice p n' c)) := by
  have hat := At.same h.blk (hV.ch.block g (At.lt h.blk) h.gt)
  have hcs : Ch (fun k => k = g) W (W.setCell ⟨g, 15, none⟩ (.slice p n' c)) := Ch.setCell W ⟨g, 15, none⟩ _
  obtain ⟨hb1, hb2⟩ := h.bne
  refine ⟨⟨(At.setC hat 15 _ :), ?_, hV.own.ch hcs (fun k hk e => h.gt (e ▸ hk)), hinv, h.gt⟩, (hV.ch.mono fun k _ e => Or.inr e).trans (hcs.mono fun k _ e => Or.inl e), fun k hk => Or.inl hk⟩
  exact (h.mp.kept (hV.ch.block b h.mp.lt hb2)).kept (heap_setC _ _ _ _ _ hb1)

/-- The shelf behind Cut. -/
def Sh.cutS (s : Sh) (i : Int) : Sh := if s.openS i = 0 then ⟨s.low, s.tail.take (i - s.low.ix).toNat, s.com⟩ else s

theorem Sh.inv.cut {s : Sh} (h : s.inv) {k : Nat} (hk : k ≤ s.tail.length) (hc : s.com ≤ s.low.ix + (k : Nat)) : (⟨s.low, s.tail.take k, s.com⟩ : Sh).inv := by
  have hl : (s.tail.take k).length = k := by rw [List.length_take, Nat.min_eq_left hk]
  have h1 := h.ix1
  have h2 := h.few
  refine ⟨h.ix0, ?_, h.lo, ?_, ?_, fun i hi => ?_, fun x hx => h.ok x (List.mem_of_mem_take hx), h.vlo, fun x hx => h.vti x (List.mem_of_mem_take hx)⟩
  · show s.low.ix + ((s.tail.take k).length : Nat) ≤ _
    rw [hl]
    omega
  · show s.com ≤ s.low.ix + ((s.tail.take k).length : Nat)
    rw [hl]
    exact hc
  · show (s.tail.take k).length ≤ 24
    rw [hl]
    omega
  · have hi2 : i < k := by rw [← hl]; exact hi
    show ((s.tail.take k).getD i .z0).ix = _
    rw [List.getD_eq_getElem?_getD, List.getElem?_take, if_pos hi2, ← List.getD_eq_getElem?_getD]
    exact h.ixs i (by omega)

set_option maxRecDepth 20000 in
set_option maxHeartbeats 1000000 in
theorem cut_any {w : World} {g b : Nat} {p : Option Addr} {n c : Nat} {s : Sh} (h : ShB w g b p n c s) (i : Int) :
    Calls Tryd.prog 36 #[.pointer (some ⟨g, 0, none⟩), .int .i64 i] w fun e w' => e = .returned (.int .i64 (s.openS i)) ∧ ∃ n', GS w g b p c p n' c (s.cutS i) w' := by
  have hO := open_any h i
  generalize hss : s.cutS i = s'
  have HS : Hid (s' = if s.openS i = 0 then ⟨s.low, s.tail.take (i - s.low.ix).toNat, s.com⟩ else s) := hss.symm
  have HI : Hid (s.openS i = 0 → s.com ≤ i ∧ i ≤ s.last) := fun e => by
    unfold Sh.openS at e
    split at e
    · cases e
    · split at e
      · cases e
      · omega
  clear hss
  have hyl : s.last = s.low.ix + (s.tail.length : Nat) := rfl
  have hln := h.len
  have hlo := h.inv.lo
  have hix0 := h.inv.ix0
  have hix1 := h.inv.ix1
  have hfew := h.inv.few
  generalize s.openS i = r at *
  go_enter Tryd.func36, Tryd.ntmps36
  go_wp2_with fail
  refine hO.mono ?_
  rintro e w1 ⟨rfl, hb1⟩
  clear hO
  have hSh := h.below hb1
  by_cases c1 : r = 0
  · subst c1
    obtain ⟨hi1, hi2⟩ := HI.out rfl
    obtain ⟨k, hk⟩ : ∃ k : Nat, (i - s.low.ix) = (k : Int) := ⟨(i - s.low.ix).toNat, by omega⟩
    have hkn : k ≤ n := by omega
    have HN : Hid (s' = ⟨s.low, s.tail.take k, s.com⟩) := by
      unfold Hid
      rw [HS.out, if_pos rfl, hk]
      rfl
    have hinv := h.inv.cut (k := k) (by omega) (by omega)
    have hw : IntKind.i64.wrap (i - s.low.ix) = (k : Int) := by rw [hk, IntKind.wrap_i64]; omega
    have hn1000 : n ≤ 1000 := by omega
    have hRC : RC g p n c s.low.ix w1 := ⟨hSh.cells.2.1, hSh.cells.1.1⟩
    clear HS HI h hk hyl
    go_wp2_with fail
    have hS0 : Bl w1 w1.drew := (Below.refl _ _).drew
    refine wp_region_det [0, 1, 2, 3, 4, 5, 6, 7, 8, 9, 10, 11, 12, 13, 14, 15, 16] (RC g p n c s.low.ix) (Bl w1) (by kernel_rfl) hS0 ?_
    refine wpDet_take ?vW0 (Bl.stays w1) (fun _ h => hRC.of h) (i := 0) rfl (by kernel_rfl) (by kernel_rfl) (by kernel_rfl) (by kernel_rfl) (fun _ _ _ h => h) (Gives.value (by rfl) ?yW0) ?rW0
    case yW0 => (intro w' hSw; (try dsimp only at hSw); go_simp; try with_reducible rfl)
    (try simp only [Act.put, List.getElem_toArray, List.getElem_cons_zero, List.getElem_cons_succ, List.setIfInBounds_toArray, List.set_cons_zero, List.set_cons_succ])
    refine wpDet_take ?vW1 (Bl.stays w1) (fun _ h => hRC.of h) (i := 1) rfl (by kernel_rfl) (by kernel_rfl) (by kernel_rfl) (by kernel_rfl) (fun _ _ _ h => h) (Gives.value (by rfl) ?yW1) ?rW1
    case yW1 => (intro w' hSw; (try dsimp only at hSw); go_simp; try with_reducible rfl)
    (try simp only [Act.put, List.getElem_toArray, List.getElem_cons_zero, List.getElem_cons_succ, List.setIfInBounds_toArray, List.set_cons_zero, List.set_cons_succ])
    refine wpDet_take ?vW2 (Bl.stays w1) (fun _ h => hRC.of h) (i := 2) rfl (by kernel_rfl) (by kernel_rfl) (by kernel_rfl) (by kernel_rfl) (fun _ _ _ h => h) (Gives.value (by rfl) ?yW2) ?rW2
    case yW2 => (intro w' hSw; (try dsimp only at hSw); go_simp; try with_reducible rfl)
    (try simp only [Act.put, List.getElem_toArray, List.getElem_cons_zero, List.getElem_cons_succ, List.setIfInBounds_toArray, List.set_cons_zero, List.set_cons_succ])
    refine wpDet_take ?vW3 (Bl.stays w1) (fun _ h => hRC.of h) (i := 3) rfl (by kernel_rfl) (by kernel_rfl) (by kernel_rfl) (by kernel_rfl) (fun _ _ _ h => h) (Gives.value (by rfl) ?yW3) ?rW3
    case yW3 => (intro w' hSw; (try dsimp only at hSw); go_simp; try with_reducible rfl)
    (try simp only [Act.put, List.getElem_toArray, List.getElem_cons_zero, List.getElem_cons_succ, List.setIfInBounds_toArray, List.set_cons_zero, List.set_cons_succ])
    refine wpDet_take ?vW4 (Bl.stays w1) (fun _ h => hRC.of h) (i := 4) rfl (by kernel_rfl) (by kernel_rfl) (by kernel_rfl) (by kernel_rfl) (fun _ _ _ h => h) (Gives.value (by rfl) ?yW4) ?rW4
    case yW4 => (intro w' hSw; have zz15 := (show RC g p n c s.low.ix w' from hSw).1; have zz0 := (show RC g p n c s.low.ix w' from hSw).2; (try dsimp only at hSw); go_simp; try with_reducible rfl)
    (try simp only [Act.put, List.getElem_toArray, List.getElem_cons_zero, List.getElem_cons_succ, List.setIfInBounds_toArray, List.set_cons_zero, List.set_cons_succ])
    refine wpDet_take ?vW5 (Bl.stays w1) (fun _ h => hRC.of h) (i := 5) rfl (by kernel_rfl) (by kernel_rfl) (by kernel_rfl) (by kernel_rfl) (fun _ _ _ h => h) (Gives.value (by rfl) ?yW5) ?rW5
    case yW5 => (intro w' hSw; (try dsimp only at hSw); go_simp; try with_reducible rfl)
    (try simp only [Act.put, List.getElem_toArray, List.getElem_cons_zero, List.getElem_cons_succ, List.setIfInBounds_toArray, List.set_cons_zero, List.set_cons_succ])
    refine wpDet_take ?vW6 (Bl.stays w1) (fun _ h => hRC.of h) (i := 6) rfl (by kernel_rfl) (by kernel_rfl) (by kernel_rfl) (by kernel_rfl) (fun _ _ _ h => h) (Gives.value (by rfl) ?yW6) ?rW6
    case yW6 => (intro w' hSw; (try dsimp only at hSw); go_simp; try with_reducible rfl)
    (try simp only [Act.put, List.getElem_toArray, List.getElem_cons_zero, List.getElem_cons_succ, List.setIfInBounds_toArray, List.set_cons_zero, List.set_cons_succ])
    refine wpDet_take ?vW7 (Bl.stays w1) (fun _ h => hRC.of h) (i := 7) rfl (by kernel_rfl) (by kernel_rfl) (by kernel_rfl) (by kernel_rfl) (fun _ _ _ h => h) (Gives.value (by rfl) ?yW7) ?rW7
    case yW7 => (intro w' hSw; (try dsimp only at hSw); go_simp; try with_reducible rfl)
    (try simp only [Act.put, List.getElem_toArray, List.getElem_cons_zero, List.getElem_cons_succ, List.setIfInBounds_toArray, List.set_cons_zero, List.set_cons_succ])
    refine wpDet_take ?vW8 (Bl.stays w1) (fun _ h => hRC.of h) (i := 8) rfl (by kernel_rfl) (by kernel_rfl) (by kernel_rfl) (by kernel_rfl) (fun _ _ _ h => h) (Gives.value (by rfl) ?yW8) ?rW8
    case yW8 => (intro w' hSw; (try dsimp only at hSw); go_simp; try with_reducible rfl)
    (try simp only [Act.put, List.getElem_toArray, List.getElem_cons_zero, List.getElem_cons_succ, List.setIfInBounds_toArray, List.set_cons_zero, List.set_cons_succ])
    refine wpDet_take ?vW9 (Bl.stays w1) (fun _ h => hRC.of h) (i := 9) rfl (by kernel_rfl) (by kernel_rfl) (by kernel_rfl) (by kernel_rfl) (fun _ _ _ h => h) (Gives.value (by rfl) ?yW9) ?rW9
    case yW9 => (intro w' hSw; (try dsimp only at hSw); go_simp; try with_reducible rfl)
    (try simp only [Act.put, List.getElem_toArray, List.getElem_cons_zero, List.getElem_cons_succ, List.setIfInBounds_toArray, List.set_cons_zero, List.set_cons_succ])
    refine wpDet_take ?vW10 (Bl.stays w1) (fun _ h => hRC.of h) (i := 10) rfl (by kernel_rfl) (by kernel_rfl) (by kernel_rfl) (by kernel_rfl) (fun _ _ _ h => h) (Gives.value (by rfl) ?yW10) ?rW10
    case yW10 => (intro w' hSw; have zz15 := (show RC g p n c s.low.ix w' from hSw).1; have zz0 := (show RC g p n c s.low.ix w' from hSw).2; (try dsimp only at hSw); go_simp; try with_reducible rfl)
    (try simp only [Act.put, List.getElem_toArray, List.getElem_cons_zero, List.getElem_cons_succ, List.setIfInBounds_toArray, List.set_cons_zero, List.set_cons_succ])
    refine wpDet_take ?vW11 (Bl.stays w1) (fun _ h => hRC.of h) (i := 11) rfl (by kernel_rfl) (by kernel_rfl) (by kernel_rfl) (by kernel_rfl) (fun _ _ _ h => h) (Gives.value (by rfl) ?yW11) ?rW11
    case yW11 => (intro w' hSw; (try dsimp only at hSw); go_simp; try with_reducible rfl)
    (try simp only [Act.put, List.getElem_toArray, List.getElem_cons_zero, List.getElem_cons_succ, List.setIfInBounds_toArray, List.set_cons_zero, List.set_cons_succ])
    refine wpDet_take ?vW12 (Bl.stays w1) (fun _ h => hRC.of h) (i := 12) rfl (by kernel_rfl) (by kernel_rfl) (by kernel_rfl) (by kernel_rfl) (fun _ _ _ h => h) (Gives.value (by rfl) ?yW12) ?rW12
    case yW12 => (intro w' hSw; (try dsimp only at hSw); go_simp; try with_reducible rfl)
    (try simp only [Act.put, List.getElem_toArray, List.getElem_cons_zero, List.getElem_cons_succ, List.setIfInBounds_toArray, List.set_cons_zero, List.set_cons_succ])
    refine wpDet_take ?vW13 (Bl.stays w1) (fun _ h => hRC.of h) (i := 13) rfl (by kernel_rfl) (by kernel_rfl) (by kernel_rfl) (by kernel_rfl) (fun _ _ _ h => h) (Gives.value (by rfl) ?yW13) ?rW13
    case yW13 => (intro w' hSw; (try dsimp only at hSw); go_simp; try with_reducible rfl)
    (try simp only [Act.put, List.getElem_toArray, List.getElem_cons_zero, List.getElem_cons_succ, List.setIfInBounds_toArray, List.set_cons_zero, List.set_cons_succ])
    refine wpDet_take ?vW14 (Bl.stays w1) (fun _ h => hRC.of h) (i := 14) rfl (by kernel_rfl) (by kernel_rfl) (by kernel_rfl) (by kernel_rfl) (fun _ _ _ h => h) (Gives.value (by rfl) ?yW14) ?rW14
    case yW14 => (intro w' hSw; (try dsimp only at hSw); go_simp; try with_reducible rfl)
    (try simp only [Act.put, List.getElem_toArray, List.getElem_cons_zero, List.getElem_cons_succ, List.setIfInBounds_toArray, List.set_cons_zero, List.set_cons_succ])
    refine wpDet_take ?vW15 (Bl.stays w1) (fun _ h => hRC.of h) (i := 15) rfl (by kernel_rfl) (by kernel_rfl) (by kernel_rfl) (by kernel_rfl) (fun _ _ _ h => h) (Gives.value (by rfl) ?yW15) ?rW15
    case yW15 => (intro w' hSw; have zz15 := (show RC g p n c s.low.ix w' from hSw).1; have zz0 := (show RC g p n c s.low.ix w' from hSw).2; (try dsimp only at hSw); go_simp; try with_reducible rfl)
    (try simp only [Act.put, List.getElem_toArray, List.getElem_cons_zero, List.getElem_cons_succ, List.setIfInBounds_toArray, List.set_cons_zero, List.set_cons_succ])
    refine wpDet_take ?vW16 (Bl.stays w1) (fun _ h => hRC.of h) (i := 16) rfl (by kernel_rfl) (by kernel_rfl) (by kernel_rfl) (by kernel_rfl) (fun _ _ _ h => h) (Gives.value (by rfl) ?yW16) ?rW16
    case yW16 => (intro w' hSw; have zz15 := (show RC g p n c s.low.ix w' from hSw).1; have zz0 := (show RC g p n c s.low.ix w' from hSw).2; (try dsimp only at hSw); go_simp; try with_reducible rfl)
    (try simp only [Act.put, List.getElem_toArray, List.getElem_cons_zero, List.getElem_cons_succ, List.setIfInBounds_toArray, List.set_cons_zero, List.set_cons_succ])
    refine wpDet_ready (rs := [17]) (by kernel_rfl) (by simp) (AllDet.cons rfl (fun V hV K hK => ?_) AllDet.nil)
    rw [if_pos (by rfl)]
    have hbV := Bl.out hV
    have hC := del_end (hSh.tl.below hbV) k hkn hn1000
    refine wp_enterX 57 #[.slice p n c, .int .i64 k, .int .i64 n] (by first | (go_simp; done) | (go_simp; rfl)) (fun x W => x = .slice p k c ∧ OwG recS 64 W 0 p k c (s.tail.take k) ∧ Ch (mine p c) V W) (hC.mono fun r w' ⟨h1, h2, h3⟩ => ⟨_, h1, rfl, h2, h3⟩) ?_
    rintro x7 V7 ⟨rfl, ho7, hch7⟩
    have hz7 : AC w1 p c k (s.tail.take k) V7 := ⟨ho7, (Ch.of_below hbV _).trans hch7⟩
    refine hK.out (AC w1 p c k (s.tail.take k)) _ _ (AC.stays _ _ _ _ _) (fun _ _ h => hRC.ch h.ch hSh.gt) hz7 ?_
    clear hK K hV hC hz7 hbV ho7 hch7
    (try simp only [Act.put, List.getElem_toArray, List.getElem_cons_zero, List.getElem_cons_succ, List.setIfInBounds_toArray, List.set_cons_zero, List.set_cons_succ])
    refine wpDet_ready (rs := [18]) (by kernel_rfl) (by simp) (AllDet.cons rfl (fun V hV K hK => ?_) AllDet.nil)
    rw [if_pos (by rfl)]
    refine wp_value (.pointer (some ⟨g, 0, none⟩)) V (by first | (go_simp; done) | (go_simp; rfl)) ?_
    refine hK.out (AC w1 p c k (s.tail.take k)) _ _ (AC.stays _ _ _ _ _) (fun _ _ h => hRC.ch h.ch hSh.gt) hV ?_
    clear hK K hV
    (try simp only [Act.put, List.getElem_toArray, List.getElem_cons_zero, List.getElem_cons_succ, List.setIfInBounds_toArray, List.set_cons_zero, List.set_cons_succ])
    refine wpDet_ready (rs := [19]) (by kernel_rfl) (by simp) (AllDet.cons rfl (fun V hV K hK => ?_) AllDet.nil)
    rw [if_pos (by rfl)]
    refine wp_value (.pointer (some ⟨g, 15, none⟩)) V (by first | (go_simp; done) | (go_simp; rfl)) ?_
    refine hK.out (AC w1 p c k (s.tail.take k)) _ _ (AC.stays _ _ _ _ _) (fun _ _ h => hRC.ch h.ch hSh.gt) hV ?_
    clear hK K hV
    (try simp only [Act.put, List.getElem_toArray, List.getElem_cons_zero, List.getElem_cons_succ, List.setIfInBounds_toArray, List.set_cons_zero, List.set_cons_succ])
    refine wpDet_ready (rs := [20]) (by kernel_rfl) (by simp) (AllDet.cons rfl (fun V hV K hK => ?_) AllDet.nil)
    rw [if_pos (by rfl)]
    have hz9 := hSh.cutD hV hinv
    have hat := At.same hSh.blk (hV.ch.block g (At.lt hSh.blk) hSh.gt)
    refine wp_store_any 41 _ _ rfl g 15 (.slice p k c) _ rfl rfl sizeSl rfl rfl (At.cell hat 15) (At.free hat 15) ?_
    refine hK.out (GS w1 g b p c p k c ⟨s.low, s.tail.take k, s.com⟩) _ _ (GS.stays _ _ _ _ _ _ _ _ _) (no_lean (by kernel_rfl)) hz9 ?_
    clear hK K hV hz9 hat
    (try simp only [Act.put, List.getElem_toArray, List.getElem_cons_zero, List.getElem_cons_succ, List.setIfInBounds_toArray, List.set_cons_zero, List.set_cons_succ])
    refine wpDet_done (by kernel_rfl) (fun W9 hV => ?_) _
    obtain ⟨hs9, hc9, hn9⟩ := hV
    go_wp2_with fail
    go_ret
    rw [HN.out]
    exact ⟨rfl, k, hs9, (Ch.of_below hb1 _).trans hc9, fun k hk => (hn9 k hk).imp id (fun h => Nat.le_trans hb1.size h)⟩
  · have HN : Hid (s' = s) := by unfold Hid; rw [HS.out, if_neg c1]
    clear HS HI
    go_wp2_with fail
    go_ret
    rw [HN.out]
    exact ⟨rfl, n, hSh, Ch.of_below hb1 _, fun k hk => Or.inl hk⟩

end Go.Proofs.YtnbgdkdnlfomeaaDoor.M
