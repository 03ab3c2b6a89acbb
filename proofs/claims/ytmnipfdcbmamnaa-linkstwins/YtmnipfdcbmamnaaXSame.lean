/-
  Own text: a Net has what the document's has: same tells it.
-/
import Derived.Test.YtmnipfdcbmamnaaXEq
import Derived.Test.YtmnipfdcbmamnaaNTwo
namespace Go.Proofs.Ytmnipfdcbmamnaa.M
open Go.ChangeShapes Go.WideShapes Go.ChangeAt Go.RowKit Go.ChangeMaps Go.MapKept Go.Maps
set_option linter.unusedSimpArgs false

theorem wp_enterX {P : Program} {op : Oper} {a : Act} {w : World} {K : Act → World → Prop} {Q : Exit → Act → World → Prop} (f : FuncId) (args : Array Value) (he : (execOp a.eval op).run P w = .ok (.enter f args) w) (R : Value → World → Prop) (hc : Calls P f args w fun e w' => ∃ v, e = .returned v ∧ R v w') (h : ∀ v w', R v w' → K (a.put op.dst v) w') : op.wp P a w K Q := by
  unfold Oper.wp
  rw [he]
  refine Calls.mono hc ?_
  rintro e w' ⟨v, rfl, hR⟩
  exact h v w' hR

variable {Z : Nat → Prop}

theorem str_nums (s : ByteArray) : strOfNums (numsOf s) = s := by
  obtain ⟨d⟩ := s
  obtain ⟨l⟩ := d
  unfold strOfNums numsOf
  simp only [List.map_map]
  congr 2
  refine (List.map_congr_left (g := id) fun c _ => ?_).trans (List.map_id l)
  show UInt8.ofNat ((c.toNat : Int).toNat) = c
  simp

theorem BusyX_any {w : World} {B g b n : Nat} {m : PN} (h : NM Z w B g b n m) (hl : Lks m) (hn : n ≤ 1000000) :
    Calls Try.prog 18 #[.pointer (some ⟨g, 0, none⟩)] w fun e w' => ∃ q c, e = .returned (.slice q (allB m.N 32).length c) ∧ RdL w' q (allB m.N 32).length c (allB m.N 32) ∧ Below w.heap.size w w' := by
  refine (BusyM_any h hl hn).mono ?_
  rintro e w' ⟨v, rfl, p, q, c, ss, rfl, hB, hR, _, _, hb⟩
  have e := busy_all hl hB
  rw [← e, hR.len]
  exact ⟨p, c, rfl, hR, hb⟩

set_option maxRecDepth 20000 in
theorem nLost_any {w : World} {B g b n : Nat} {m : PN} (h : NM Z w B g b n m) :
    Calls Try.prog 12 #[.pointer (some ⟨g, 0, none⟩)] w fun o w' => o = .returned (.int .i64 m.lost) ∧ Below w.heap.size w w' := by
  obtain ⟨⟨R, h1⟩, _⟩ := h
  have hba := Below.refl w.heap.size w
  have hm := nmade_yes h1
  obtain ⟨q0, q1, q2⟩ := h1.blk.three
  clear h1
  go_enter Try.func12, Try.ntmps12
  go_wp2_with fail
  refine hm.mono ?_
  rintro o w1 ⟨rfl, hw⟩
  subst w1
  clear hm
  go_wp2_with fail
  go_ret
  exact ⟨rfl, hba⟩

theorem PeekN_ok {w : World} {B g b n : Nat} {m : PN} (h : NM Z w B g b n m) {x y : Int} (hx : Wf x) (hy : Wf y) (i : Nat) (hi : i < (m.N x y).length) {msg : ByteArray} (hmsg : (m.N x y).getD i ByteArray.empty = msg) :
    Calls Try.prog 15 #[.pointer (some ⟨g, 0, none⟩), .agg #[.int .i64 x, .int .i64 y], .int .i64 i] w fun o w' => (∃ p m c, o = .returned (.tuple #[.slice p m c, .int .i64 0]) ∧ Rd .u8 w' p m c (numsOf msg) ∧ RowU w.heap.size w' p) ∧ Below w.heap.size w w' := by
  obtain ⟨⟨R, h1⟩, _⟩ := h
  exact Peek_ok h1 hx hy i hi hmsg

theorem xPeek_ok {w : World} {gx n : Nat} {m : PN} (h : XS w gx n m) (hn : n ≤ 1000000) (x y : Int) (i : Nat) (hi : i < (m.N x y).length) {msg : ByteArray} (hmsg : (m.N x y).getD i ByteArray.empty = msg) :
    Calls Try.prog 16 #[.pointer (some ⟨gx, 0, none⟩), .agg #[.int .i64 x, .int .i64 y], .int .i64 i] w fun o w' => o = .returned (.tuple #[.string msg, .int .i64 0]) ∧ Below w.heap.size w w' := by
  obtain ⟨p, k0, c, its, hX, hk0, hI⟩ := h.so
  rcases pl_cases hI x y i with ⟨hp, hi2⟩ | ⟨a, hp, hi2, ha, ho, hm, her⟩
  · exact absurd (show (0 : Int) ≤ (i : Int) ∧ (i : Int) < (m.N x y).length by omega) hi2
  · have := rPeek_yes hX (by omega) x y i hp
    rw [hm, Int.toNat_natCast, hmsg] at this
    exact this

theorem xPeek_no {w : World} {gx n : Nat} {m : PN} (h : XS w gx n m) (hn : n ≤ 1000000) (x y i : Int) (hi : ¬ (0 ≤ i ∧ i < (m.N x y).length)) :
    Calls Try.prog 16 #[.pointer (some ⟨gx, 0, none⟩), .agg #[.int .i64 x, .int .i64 y], .int .i64 i] w fun o w' => o = .returned (.tuple #[.string { data := #[] }, .int .i64 40]) ∧ Below w.heap.size w w' := by
  obtain ⟨p, k0, c, its, hX, hk0, hI⟩ := h.so
  rcases pl_cases hI x y i with ⟨hp, hi2⟩ | ⟨a, hp, hi2, ha, ho, hm, her⟩
  · exact rPeek_no hX (by omega) x y i hp
  · exact absurd hi2 hi

theorem xLen_any {w : World} {gx n : Nat} {m : PN} (h : XS w gx n m) (hn : n ≤ 1000000) (x y : Int) :
    Calls Try.prog 14 #[.pointer (some ⟨gx, 0, none⟩), .agg #[.int .i64 x, .int .i64 y]] w fun o w' => o = .returned (.int .i64 (m.N x y).length) ∧ Below w.heap.size w w' := by
  obtain ⟨p, k0, c, its, hX, hk0, hI⟩ := h.so
  have := rLen_any w gx p k0 c its hX.c0 hX.rd (by omega) x y
  rw [hI] at this
  exact this

theorem XS.lostC {w : World} {gx n : Nat} {m : PN} (h : XS w gx n m) : w.cell? ⟨gx, 65, none⟩ = some (.int .i64 m.lost) := by
  obtain ⟨p, k0, c, its, hX, hk0, hI⟩ := h.so
  exact hX.c65

/-- Two slices of links can be read. -/
def Two (w : World) (L : List (Int × Int)) (p q : Option Addr) (c d : Nat) (W : World) : Prop := Bl w W ∧ RdL W p L.length c L ∧ RdL W q L.length d L
theorem Two.stays (w : World) (L : List (Int × Int)) (p q : Option Addr) (c d : Nat) : Stays (Two w L p q c d) := fun W W' h hb => ⟨Bl.stays w W W' h.1 hb, h.2.1.below hb, h.2.2.below hb⟩
def One (w : World) (L : List (Int × Int)) (p : Option Addr) (c : Nat) (W : World) : Prop := Bl w W ∧ RdL W p L.length c L
theorem One.stays (w : World) (L : List (Int × Int)) (p : Option Addr) (c : Nat) : Stays (One w L p c) := fun W W' h hb => ⟨Bl.stays w W W' h.1 hb, h.2.below hb⟩

set_option maxRecDepth 20000 in
set_option maxHeartbeats 4000000 in
theorem same_any {w : World} {B g b n gx nx : Nat} {m : PN} (hM : NM Z w B g b n m) (hl : Lks m) (hn : n ≤ 1000000) (hX : XS w gx nx m) (hnx : nx ≤ 1000000) :
    Calls Try.prog 23 #[.pointer (some ⟨g, 0, none⟩), .pointer (some ⟨gx, 0, none⟩)] w fun o w' => o = .returned (.bool true) ∧ Below w.heap.size w w' := by
  obtain ⟨L, HL⟩ : ∃ z, Hid (allB m.N 32 = z) := ⟨_, rfl⟩
  have gB : ∀ W, Bl w W → Calls Try.prog 18 #[.pointer (some ⟨g, 0, none⟩)] W fun e w' => ∃ v, e = .returned v ∧ ∃ q c, v = .slice q L.length c ∧ RdL w' q L.length c L ∧ Below W.heap.size W w' := fun W hW => by
    have := BusyX_any (hM.below (Bl.out' hW)) hl hn
    rw [HL.out] at this
    exact this.mono fun e w' ⟨q, c, h1, h2⟩ => ⟨_, h1, q, c, rfl, h2⟩
  have gX : ∀ W, Bl w W → Calls Try.prog 19 #[.pointer (some ⟨gx, 0, none⟩)] W fun e w' => ∃ v, e = .returned v ∧ ∃ q c, v = .slice q L.length c ∧ RdL w' q L.length c L ∧ Below W.heap.size W w' := fun W hW => by
    have := rBusy_any (hX.below (Bl.out' hW)) hnx
    rw [HL.out] at this
    exact this.mono fun e w' ⟨q, c, h1, h2⟩ => ⟨_, h1, q, c, rfl, h2⟩
  have gL : ∀ W, Bl w W → Calls Try.prog 12 #[.pointer (some ⟨g, 0, none⟩)] W fun o w' => o = .returned (.int .i64 m.lost) ∧ Below W.heap.size W w' := fun W hW => nLost_any (hM.below (Bl.out' hW))
  have hc65 : ∀ W, Bl w W → W.cell? ⟨gx, 65, none⟩ = some (.int .i64 m.lost) := fun W hW => (hX.below (Bl.out' hW)).lostC
  have hLn : L.length ≤ 1000000 := by
    have := allB_len m.N 32
    rw [HL.out] at this
    omega
  have hne : (m.lost != m.lost) = false := bne_self_eq_false _
  go_enter Try.func23, Try.ntmps23
  go_wp2_with fail
  have hS0 : Bl w w.drew := (Below.refl _ _).drew
  refine wp_region_det [0, 2, 5, 6, 7, 8, 9, 10, 11, 12, 13, 14] (Bl w) (Bl w) (by kernel_rfl) hS0 ?_
  refine wpDet_take ?vA0 (Bl.stays w) (fun _ h => h) (i := 0) rfl (by kernel_rfl) (by kernel_rfl) (by kernel_rfl) (by kernel_rfl) (fun _ _ _ h => h) (Gives.value (by rfl) ?yA0) ?rA0
  case yA0 => (intro w' hSw; (try dsimp only at hSw); go_simp; try with_reducible rfl)
  (try simp only [Act.put, List.getElem_toArray, List.getElem_cons_zero, List.getElem_cons_succ, List.setIfInBounds_toArray, List.set_cons_zero, List.set_cons_succ])
  refine wpDet_take ?vA2 (Bl.stays w) (fun _ h => h) (i := 2) rfl (by kernel_rfl) (by kernel_rfl) (by kernel_rfl) (by kernel_rfl) (fun _ _ _ h => h) (Gives.value (by rfl) ?yA2) ?rA2
  case yA2 => (intro w' hSw; (try dsimp only at hSw); go_simp; try with_reducible rfl)
  (try simp only [Act.put, List.getElem_toArray, List.getElem_cons_zero, List.getElem_cons_succ, List.setIfInBounds_toArray, List.set_cons_zero, List.set_cons_succ])
  refine wpDet_ready (rs := [1]) (by kernel_rfl) (by simp) (AllDet.cons rfl (fun V hV K hK => ?_) AllDet.nil)
  rw [if_pos (by rfl)]
  refine wp_enterX 18 #[.pointer (some ⟨g, 0, none⟩)] (by first | (go_simp; done) | (go_simp; rfl)) (fun v w' => ∃ q c, v = .slice q L.length c ∧ RdL w' q L.length c L ∧ Below V.heap.size V w') (gB V hV) ?_
  rintro v V' ⟨p1, c1, rfl, hr1, hb1⟩
  refine hK.out (One w L p1 c1) _ _ (One.stays w L p1 c1) (fun _ _ h => h.1) ⟨Bl.stays w V V' hV hb1, hr1⟩ ?_
  clear hK K hV hr1 hb1
  (try simp only [Act.put, List.getElem_toArray, List.getElem_cons_zero, List.getElem_cons_succ, List.setIfInBounds_toArray, List.set_cons_zero, List.set_cons_succ])
  refine wpDet_ready (rs := [3]) (by kernel_rfl) (by simp) (AllDet.cons rfl (fun V hV K hK => ?_) AllDet.nil)
  rw [if_pos (by rfl)]
  refine wp_enterX 19 #[.pointer (some ⟨gx, 0, none⟩)] (by first | (go_simp; done) | (go_simp; rfl)) (fun v w' => ∃ q c, v = .slice q L.length c ∧ RdL w' q L.length c L ∧ Below V.heap.size V w') (gX V hV.1) ?_
  rintro v V' ⟨p2, c2, rfl, hr2, hb2⟩
  refine hK.out (Two w L p1 p2 c1 c2) _ _ (Two.stays w L p1 p2 c1 c2) (fun _ _ h => h.1) ⟨Bl.stays w V V' hV.1 hb2, hV.2.below hb2, hr2⟩ ?_
  clear hK K hV hr2 hb2
  (try simp only [Act.put, List.getElem_toArray, List.getElem_cons_zero, List.getElem_cons_succ, List.setIfInBounds_toArray, List.set_cons_zero, List.set_cons_succ])
  refine wpDet_ready (rs := [4]) (by kernel_rfl) (by simp) (AllDet.cons rfl (fun V hV K hK => ?_) AllDet.nil)
  rw [if_pos (by rfl)]
  refine wp_enterX 17 #[.slice p1 L.length c1, .slice p2 L.length c2] (by first | (go_simp; done) | (go_simp; rfl)) (fun v w' => v = .bool true ∧ Below V.heap.size V w') ((eqL_same hV.2.1 hV.2.2 hLn).mono fun e w' ⟨h1, h2⟩ => ⟨_, h1, rfl, h2⟩) ?_
  rintro v V' ⟨rfl, hb3⟩
  refine hK.out (Bl w) _ _ (Bl.stays w) (fun _ _ h => h) (Bl.stays w V V' hV.1 hb3) ?_
  clear hK K hV hb3
  (try simp only [Act.put, List.getElem_toArray, List.getElem_cons_zero, List.getElem_cons_succ, List.setIfInBounds_toArray, List.set_cons_zero, List.set_cons_succ])
  refine wpDet_take ?vA5 (Bl.stays w) (fun _ h => h) (i := 5) rfl (by kernel_rfl) (by kernel_rfl) (by kernel_rfl) (by kernel_rfl) (fun _ _ _ h => h) (Gives.value (by rfl) ?yA5) ?rA5
  case yA5 => (intro w' hSw; (try dsimp only at hSw); go_simp; try with_reducible rfl)
  (try simp only [Act.put, List.getElem_toArray, List.getElem_cons_zero, List.getElem_cons_succ, List.setIfInBounds_toArray, List.set_cons_zero, List.set_cons_succ])
  refine wpDet_take ?vA6 (Bl.stays w) (fun _ h => h) (i := 6) rfl (by kernel_rfl) (by kernel_rfl) (by kernel_rfl) (by kernel_rfl) (fun _ _ _ h => h) (Gives.value (by rfl) ?yA6) ?rA6
  case yA6 => (intro w' hSw; (try dsimp only at hSw); go_simp; try with_reducible rfl)
  (try simp only [Act.put, List.getElem_toArray, List.getElem_cons_zero, List.getElem_cons_succ, List.setIfInBounds_toArray, List.set_cons_zero, List.set_cons_succ])
  refine wpDet_take ?vA7 (Bl.stays w) (fun _ h => h) (i := 7) rfl (by kernel_rfl) (by kernel_rfl) (by kernel_rfl) (by kernel_rfl) (fun _ _ _ h => h) (Gives.value (by rfl) ?yA7) ?rA7
  case yA7 => (intro w' hSw; (try dsimp only at hSw); go_simp; try with_reducible rfl)
  (try simp only [Act.put, List.getElem_toArray, List.getElem_cons_zero, List.getElem_cons_succ, List.setIfInBounds_toArray, List.set_cons_zero, List.set_cons_succ])
  refine wpDet_take (.int .i64 m.lost) (Bl.stays w) (fun _ h => h) (i := 8) rfl (by kernel_rfl) (by kernel_rfl) (by kernel_rfl) (by kernel_rfl) (fun _ _ _ h => h) (Gives.call 12 #[.pointer (some ⟨g, 0, none⟩)] (by rfl) (fun _ => by first | (go_simp; done) | (go_simp; rfl)) (fun W hW => gL W hW)) ?_
  (try simp only [Act.put, List.getElem_toArray, List.getElem_cons_zero, List.getElem_cons_succ, List.setIfInBounds_toArray, List.set_cons_zero, List.set_cons_succ])
  refine wpDet_take ?vA9 (Bl.stays w) (fun _ h => h) (i := 9) rfl (by kernel_rfl) (by kernel_rfl) (by kernel_rfl) (by kernel_rfl) (fun _ _ _ h => h) (Gives.value (by rfl) ?yA9) ?rA9
  case yA9 => (intro w' hSw; (try dsimp only at hSw); go_simp; try with_reducible rfl)
  (try simp only [Act.put, List.getElem_toArray, List.getElem_cons_zero, List.getElem_cons_succ, List.setIfInBounds_toArray, List.set_cons_zero, List.set_cons_succ])
  refine wpDet_take ?vA10 (Bl.stays w) (fun _ h => h) (i := 10) rfl (by kernel_rfl) (by kernel_rfl) (by kernel_rfl) (by kernel_rfl) (fun _ _ _ h => h) (Gives.value (by rfl) ?yA10) ?rA10
  case yA10 => (intro w' hSw; (try dsimp only at hSw); go_simp; try with_reducible rfl)
  (try simp only [Act.put, List.getElem_toArray, List.getElem_cons_zero, List.getElem_cons_succ, List.setIfInBounds_toArray, List.set_cons_zero, List.set_cons_succ])
  refine wpDet_take ?vA11 (Bl.stays w) (fun _ h => h) (i := 11) rfl (by kernel_rfl) (by kernel_rfl) (by kernel_rfl) (by kernel_rfl) (fun _ _ _ h => h) (Gives.value (by rfl) ?yA11) ?rA11
  case yA11 => (intro w' hSw; (try dsimp only at hSw); go_simp; try with_reducible rfl)
  (try simp only [Act.put, List.getElem_toArray, List.getElem_cons_zero, List.getElem_cons_succ, List.setIfInBounds_toArray, List.set_cons_zero, List.set_cons_succ])
  refine wpDet_take ?vA12 (Bl.stays w) (fun _ h => h) (i := 12) rfl (by kernel_rfl) (by kernel_rfl) (by kernel_rfl) (by kernel_rfl) (fun _ _ _ h => h) (Gives.value (by rfl) ?yA12) ?rA12
  case yA12 => (intro w' hSw; have hz0 := hc65 w' hSw; (try dsimp only at hSw); go_simp; try with_reducible rfl)
  (try simp only [Act.put, List.getElem_toArray, List.getElem_cons_zero, List.getElem_cons_succ, List.setIfInBounds_toArray, List.set_cons_zero, List.set_cons_succ])
  refine wpDet_take ?vA13 (Bl.stays w) (fun _ h => h) (i := 13) rfl (by kernel_rfl) (by kernel_rfl) (by kernel_rfl) (by kernel_rfl) (fun _ _ _ h => h) (Gives.value (by rfl) ?yA13) ?rA13
  case yA13 => (intro w' hSw; (try dsimp only at hSw); go_simp; try with_reducible rfl)
  (try simp only [Act.put, List.getElem_toArray, List.getElem_cons_zero, List.getElem_cons_succ, List.setIfInBounds_toArray, List.set_cons_zero, List.set_cons_succ])
  refine wpDet_take ?vA14 (Bl.stays w) (fun _ h => h) (i := 14) rfl (by kernel_rfl) (by kernel_rfl) (by kernel_rfl) (by kernel_rfl) (fun _ _ _ h => h) (Gives.value (by rfl) ?yA14) ?rA14
  case yA14 => (intro w' hSw; (try dsimp only at hSw); go_simp; try with_reducible rfl)
  (try simp only [Act.put, List.getElem_toArray, List.getElem_cons_zero, List.getElem_cons_succ, List.setIfInBounds_toArray, List.set_cons_zero, List.set_cons_succ])
  refine wpDet_done (by kernel_rfl) (fun W1 hW1 => ?_) _
  have gX1 := gX W1 hW1
  have hb1 := Bl.out' hW1
  have hM1 := hM.below hb1
  have hX1 := hX.below hb1
  clear gB gX gL hc65 hW1 hM hX
  go_wp2_with fail
  refine gX1.mono ?_
  rintro o W7 ⟨v, rfl, pb, cb, rfl, hRL, hb7⟩
  have hnm7 := hM1.below hb7
  have hx7 := hX1.below hb7
  have hbw7 := hb1.trans (hb7.mono hb1.size)
  clear gX1 hb7 hM1 hX1 hb1
  go_wp2_with fail
  have hw7 := hbw7.size
  go_loopw [30] (fun i wr => ∃ (j : Nat), j ≤ L.length ∧ i = .int .i64 j ∧ Below W7.heap.size W7 wr) (fun i _ => L.length - (intOf i).toNat)
  case atStart => exact ⟨0, Nat.zero_le _, rfl, Below.refl _ _⟩
  case round =>
    obtain ⟨j, hj, rfl, hbj⟩ := hrel
    by_cases hjq : j < L.length
    · have hji : (j : Int) < (L.length : Int) := by omega
      obtain ⟨gc, oc, rfl, hcl⟩ := (hRL.below hbj).cells (by omega)
      obtain ⟨e0, e1⟩ := hcl j hjq
      have hmem : L.getD j (0, 0) ∈ L := by
        rw [List.getD_eq_getElem?_getD, List.getElem?_eq_getElem hjq]
        exact List.getElem_mem hjq
      have hnen : m.N (L.getD j (0, 0)).1 (L.getD j (0, 0)).2 ≠ [] := by
        rw [← HL.out] at hmem ⊢
        obtain ⟨a, b, _, _, e, h3⟩ := (allB_mem m.N 32 _).1 hmem
        rw [e]
        exact h3
      generalize L.getD j (0, 0) = t at *
      obtain ⟨t1, t2⟩ := t
      dsimp only at e0 e1 hnen
      obtain ⟨⟨hwx, _⟩, hwy, _⟩ := lk_wf (hl _ _ hnen)
      have hbx := below_alloc wr (.cells #[.int .i64 t1, .int .i64 t2] 33)
      have hX := At.new 33 wr #[.int .i64 t1, .int .i64 t2]
      have hb8 := hbj.trans (hbx.mono hbj.size)
      have hnm8 := hnm7.below hb8
      have hx8 := hx7.below hb8
      have gLn := xLen_any hx8 hnx t1 t2
      obtain ⟨ln, Hln⟩ : ∃ z, Hid ((m.N t1 t2).length = z) := ⟨_, rfl⟩
      have h8 : (m.N t1 t2).length ≤ 8 := hnm8.few t1 t2
      rw [Hln.out] at gLn h8
      obtain ⟨z0, z1⟩ := hX.two
      clear hcl hmem hnen
      go_wp2_with fail
      refine gLn.mono ?_
      rintro o W11 ⟨rfl, hb11⟩
      have hX11 := hX.below hb11
      have hnm11 := hnm8.below hb11
      have hx11 := hx8.below hb11
      have hbj11 := hb8.trans (hb11.mono hb8.size)
      clear gLn z0 z1 hnm8 hx8 hb11 hb8 hX e0 e1 hbx
      generalize wr.heap.size = gl at *
      go_wp2_with fail
      go_loopw [37] (fun ix wq => ∃ (e : Nat), e ≤ ln ∧ ix = .int .i64 e ∧ Below W11.heap.size W11 wq) (fun ix _ => ln - (intOf ix).toNat)
      case atStart => exact ⟨0, Nat.zero_le _, rfl, Below.refl _ _⟩
      case round =>
        obtain ⟨e, he, rfl, hbe⟩ := hrel
        by_cases hel : e < ln
        · have hei : (e : Int) < (ln : Int) := by omega
          have hXe := hX11.below hbe
          obtain ⟨msg, Hmsg⟩ : ∃ z, Hid ((m.N t1 t2).getD e ByteArray.empty = z) := ⟨_, rfl⟩
          have gP := PeekN_ok (hnm11.below hbe) hwx hwy e (by rw [Hln.out]; exact hel) Hmsg.out
          obtain ⟨z0, z1⟩ := hXe.two
          go_wp2_with fail
          refine gP.mono ?_
          rintro o W12 ⟨⟨p1, m1, q1, rfl, hr1, _⟩, hb12⟩
          have gQ := xPeek_ok ((hx11.below hbe).below hb12) hnx t1 t2 e (by rw [Hln.out]; exact hel) Hmsg.out
          obtain ⟨z0, z1⟩ := (hXe.below hb12).two
          have hbe12 := hbe.trans (hb12.mono hbe.size)
          clear gP hb12
          go_wp2_with fail
          refine gQ.mono ?_
          rintro o W13 ⟨rfl, hb13⟩
          have hs1 := (hr1.below hb13).str
          rw [str_nums] at hs1
          have hbe13 := hbe12.trans (hb13.mono hbe12.size)
          clear gQ hb13 z0 z1 hr1
          go_wp2_with fail
          go_roundw
          case rel => exact ⟨e + 1, by omega, by go_num, hbe13⟩
          case measure => simp [intOf]; omega
        · have hei : ¬ (e : Int) < (ln : Int) := by omega
          have hbz := hbj11.trans (hbe.mono hbj11.size)
          go_wp2_with fail
          go_roundw
          case rel => exact ⟨j + 1, by omega, by go_num, hbz⟩
          case measure => simp [intOf]; omega
    · have hji : ¬ (j : Int) < (L.length : Int) := by omega
      go_wp2_with fail
      go_ret
      exact ⟨rfl, hbw7.trans (hbj.mono hbw7.size)⟩

end Go.Proofs.Ytmnipfdcbmamnaa.M
