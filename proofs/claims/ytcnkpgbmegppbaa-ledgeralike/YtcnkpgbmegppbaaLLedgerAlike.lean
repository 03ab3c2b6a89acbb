/-
  Own text: contracts of Apply that tell besides where chains lie: not below a bound.
  Own text: ledgers whose chains lie in new memory; a ledger that another one's changes leave alone; a ledger's clone.
  Own text: a ledger's clone; copies of the law's calls.
  Own text: copies of the law's calls, one list behind another.
  Own text: the walk of the statement 'LedgerAlike'.
-/
import Derived.Test.YtcnkpgbmegppbaaJAny
import Derived.Test.YtcnkpgbmegppbaaJBig
namespace Go.Proofs.Ytcnkpgbmegppbaa.M
open Go.ChangeShapes Go.WideShapes Go.ChangeAt Go.RowKit

/-- No chain's members lie below B. -/
def Far (B : Nat) (x : HE) (H : List HE) : Prop := ∀ y, y = x ∨ y ∈ H → ∀ a, y.p = some a → 0 < y.n → B ≤ a.block

theorem Far.now {B : Nat} {x : HE} {H : List HE} (h : Far B x H) {E : Int} {q : Option Addr} {N cc : Nat} {M : List Mb} (hq : ∀ a, q = some a → 0 < N → B ≤ a.block) : Far B ⟨E, q, N, cc, M⟩ H := by
  intro y hy a ha h0
  rcases hy with rfl | hy
  · exact hq a ha h0
  · exact h y (Or.inr hy) a ha h0

theorem Far.snoc {B : Nat} {x : HE} {H : List HE} (h : Far B x H) {E : Int} {q : Option Addr} {N cc : Nat} {M : List Mb} (hq : ∀ a, q = some a → 0 < N → B ≤ a.block) : Far B ⟨E, q, N, cc, M⟩ (H ++ [⟨E, q, N, cc, M⟩]) := by
  intro y hy a ha h0
  rcases hy with rfl | hy
  · exact hq a ha h0
  · rcases List.mem_append.1 hy with hy | hy
    · exact h y (Or.inr hy) a ha h0
    · rw [List.mem_singleton.1 hy] at ha h0
      exact hq a ha h0

/-- A ledger in block g that is this in plain words; no chain lies below B. -/
def LPf (B : Nat) (w : World) (g r : Nat) (s : PL) : Prop := ∃ bc x H, LB w g r bc x s.at_ H ∧ x.ch = (s.e, s.ms) ∧ H.map HE.ch = s.H ∧ Far B x H

theorem LPf.lp {B : Nat} {w : World} {g r : Nat} {s : PL} (h : LPf B w g r s) : LP w g r s := by
  obtain ⟨bc, x, H, h1, h2, h3, _⟩ := h
  exact ⟨bc, x, H, h1, h2, h3⟩

theorem LPf.below {B : Nat} {w w' : World} {g r : Nat} {s : PL} (h : LPf B w g r s) (hb : Below w.heap.size w w') : LPf B w' g r s := by
  obtain ⟨bc, x, H, h1, h2⟩ := h
  exact ⟨bc, x, H, h1.below hb, h2⟩

/-- A ledger behind a call: its row is the old one, or new. -/
def AftF (B : Nat) (w w' : World) (g r : Nat) (s : PL) : Prop := ∃ r', (r' = r ∨ w.heap.size ≤ r') ∧ LPf B w' g r' s

theorem AftF.mk {B : Nat} {w w' : World} {g r : Nat} {s : PL} (r' : Nat) (h : r' = r ∨ w.heap.size ≤ r') (l : LPf B w' g r' s) : AftF B w w' g r s := ⟨r', h, l⟩

set_option linter.unusedSimpArgs false in
set_option maxRecDepth 20000 in
set_option maxHeartbeats 4000000 in
theorem ApplyF_gap (B0 : Nat) (g r : Nat) (s : PL) (w : World) (_hBw : B0 ≤ w.heap.size) (h : LPf B0 w g r s) (i : Int) (v : Value) (ha : -9223372036854775808 ≤ s.at_ ∧ s.at_ ≤ 1099511627776) (hi : ¬ (i = s.at_ + 1 ∧ i ≤ 1099511627776)) :
    Calls Try.prog 27 #[.pointer (some ⟨g, 0, none⟩), .int .i64 i, v] w fun o w' => o = .returned (.int .i64 90) ∧ w' = w := by
  obtain ⟨bc, x, H, hL, hx, hH, hF0⟩ := h
  have hF : Hid (Far B0 x H) := hF0
  clear hF0
  have hm := made_yes g r bc x s.at_ H w hL
  obtain ⟨q0, q1, q2, q3⟩ := hL.blk.four
  have hc1 : IntKind.i64.wrap (s.at_ + 1) = s.at_ + 1 := by rw [IntKind.wrap_i64]; omega
  generalize s.at_ = at_ at *
  by_cases h1 : i = at_ + 1
  · have h2 : (1099511627776 : Int) < i := by omega
    have d1 : (i != at_ + 1) = false := by simp [h1]
    have d2 : decide ((1099511627776 : Int) < i) = true := decide_eq_true h2
    clear h1 h2 hi hL hx hH ha
    go_enter Try.func27, Try.ntmps27
    go_wp2_with fail
    refine hm.mono ?_
    rintro o w1 ⟨rfl, hw⟩
    subst w1
    go_wp2_with fail
    go_ret
    exact ⟨rfl, rfl⟩
  · have d1 : (i != at_ + 1) = true := by simp [h1]
    clear h1 hi hL hx hH ha
    go_enter Try.func27, Try.ntmps27
    go_wp2_with fail
    refine hm.mono ?_
    rintro o w1 ⟨rfl, hw⟩
    subst w1
    go_wp2_with fail
    go_ret
    exact ⟨rfl, rfl⟩

set_option linter.unusedSimpArgs false in
set_option maxRecDepth 20000 in
set_option maxHeartbeats 4000000 in
theorem ApplyF_none (B0 : Nat) (g r : Nat) (s : PL) (w : World) (_hBw : B0 ≤ w.heap.size) (h : LPf B0 w g r s) (i : Int) (p : Option Addr) (c : Nat) (ha : -9223372036854775808 ≤ s.at_) (hi : i = s.at_ + 1 ∧ i ≤ 1099511627776) :
    Calls Try.prog 27 #[.pointer (some ⟨g, 0, none⟩), .int .i64 i, .slice p 0 c] w fun o w' => o = .returned (.int .i64 0) ∧ LPf B0 w' g r { s with at_ := i } ∧ Ex2 g r w w' := by
  obtain ⟨bc, x, H, hL, hx, hH, hF0⟩ := h
  have hF : Hid (Far B0 x H) := hF0
  clear hF0
  have hm := made_yes g r bc x s.at_ H w hL
  obtain ⟨q0, q1, q2, q3⟩ := hL.blk.four
  have f3 := hL.blk.free 3
  have hE : Ex2 g r w (w.setCell ⟨g, 3, none⟩ (.int .i64 i)) := (Ex2.refl _ _ _).setG 3 _
  have hS : LPf B0 (w.setCell ⟨g, 3, none⟩ (.int .i64 i)) g r { s with at_ := i } := ⟨bc, x, H, hL.setAt i, hx, hH, hF.out⟩
  have hc1 : IntKind.i64.wrap (s.at_ + 1) = s.at_ + 1 := by rw [IntKind.wrap_i64]; omega
  have d1 : (i != s.at_ + 1) = false := by simp [hi.1]
  have d2 : decide ((1099511627776 : Int) < i) = false := decide_eq_false (by omega)
  clear hi hL hx hH ha
  go_enter Try.func27, Try.ntmps27
  go_wp2_with fail
  refine hm.mono ?_
  rintro o w1 ⟨rfl, hw⟩
  subst w1
  go_wp2_with fail
  go_ret
  exact ⟨rfl, hS, hE⟩

set_option linter.unusedSimpArgs false in
set_option maxRecDepth 20000 in
set_option maxHeartbeats 4000000 in
theorem ApplyF_bad (B0 : Nat) (g r : Nat) (s : PL) (w : World) (_hBw : B0 ≤ w.heap.size) (h : LPf B0 w g r s) (i : Int) (p : Option Addr) (n c : Nat) (xs : List Int) (hr : Rd .u8 w p n c xs) (hxb : By xs) (hn : n ≤ 1099511627776) (h0 : 0 < n) (ha : -9223372036854775808 ≤ s.at_) (hi : i = s.at_ + 1 ∧ i ≤ 1099511627776)
    (hms : s.ms.length ≤ 5864062014805) (hHl : s.H.length ≤ 1099511627776) (hR : getR xs = none) :
    Calls Try.prog 27 #[.pointer (some ⟨g, 0, none⟩), .int .i64 i, .slice p n c] w fun o w' => o = .returned (.int .i64 (120 : Int)) ∧ AftF B0 w w' g r { s with at_ := i } ∧ Ex2 g r w w' := by
  obtain ⟨bc, x, H, hL, hx, hH, hF0⟩ := h
  have hF : Hid (Far B0 x H) := hF0
  clear hF0
  have hm := made_yes g r bc x s.at_ H w hL
  obtain ⟨q0, q1, q2, q3⟩ := hL.blk.four
  have f3 := hL.blk.free 3
  have he0 : Ex g w (w.setCell ⟨g, 3, none⟩ (.int .i64 i)) := (Ex.refl _ _).setCell 3 _
  have hE : Ex2 g r w (w.setCell ⟨g, 3, none⟩ (.int .i64 i)) := (Ex2.refl _ _ _).setG 3 _
  have hL1 := hL.setAt i
  have hG := Get_any p n c xs _ (hr.ex he0 (rd_far hL hr)) hxb hn
  have hc1 : IntKind.i64.wrap (s.at_ + 1) = s.at_ + 1 := by rw [IntKind.wrap_i64]; omega
  have d1 : (i != s.at_ + 1) = false := by simp [hi.1]
  have d2 : decide ((1099511627776 : Int) < i) = false := decide_eq_false (by omega)
  have d3 : ((n : Int) == 0) = false := by rw [beq_eq_false_iff_ne]; omega
  have hsz : (w.setCell ⟨g, 3, none⟩ (.int .i64 i)).heap.size = w.heap.size := by simp [World.setCell]
  rw [hR] at hG
  unfold getV at hG
  obtain ⟨e, px, nx, cx, ms⟩ := x
  obtain ⟨Se, Sm, Sa, SH⟩ := s
  dsimp only [HE.ch] at *
  injection hx with hx1 hx2
  subst hx1
  subst hx2
  clear hi hL ha hr he0 hR
  go_enter Try.func27, Try.ntmps27
  go_wp2_with fail
  refine hm.mono ?_
  rintro o w1 ⟨rfl, hw⟩
  subst w1
  go_wp2_with fail
  refine hG.mono ?_
  rintro o w2 ⟨rfl, hb2⟩
  have hL2 := hL1.below hb2
  have hE2 : Ex2 g r w w2 := hE.trans (Ex2.of_below hb2) (Or.inl rfl)
  clear hG hm q0 q1 q2 q3 f3 hE hL1 hb2 hsz d1 d2 d3 hc1
  · skip
    go_wp2_with fail
    go_ret
    exact ⟨rfl, AftF.mk r (Or.inl rfl) ⟨bc, _, H, hL2.below (below_alloc _ _), rfl, hH, hF.out⟩, hE2.trans (Ex2.of_below (below_alloc _ _)) (Or.inl rfl)⟩

set_option linter.unusedSimpArgs false in
set_option maxRecDepth 20000 in
set_option maxHeartbeats 4000000 in
theorem ApplyF_ep (B0 : Nat) (g r : Nat) (s : PL) (w : World) (_hBw : B0 ≤ w.heap.size) (h : LPf B0 w g r s) (i : Int) (p : Option Addr) (n c : Nat) (xs : List Int) (hr : Rd .u8 w p n c xs) (hxb : By xs) (hn : n ≤ 1099511627776) (h0 : 0 < n) (ha : -9223372036854775808 ≤ s.at_) (hi : i = s.at_ + 1 ∧ i ≤ 1099511627776)
    (hms : s.ms.length ≤ 5864062014805) (hHl : s.H.length ≤ 1099511627776) (k nd st ep : Int) (hR : getR xs = some (k, nd, st, ep)) (hep : ep ≠ s.e) :
    Calls Try.prog 27 #[.pointer (some ⟨g, 0, none⟩), .int .i64 i, .slice p n c] w fun o w' => o = .returned (.int .i64 (150 : Int)) ∧ AftF B0 w w' g r { s with at_ := i } ∧ Ex2 g r w w' := by
  obtain ⟨bc, x, H, hL, hx, hH, hF0⟩ := h
  have hF : Hid (Far B0 x H) := hF0
  clear hF0
  have hm := made_yes g r bc x s.at_ H w hL
  obtain ⟨q0, q1, q2, q3⟩ := hL.blk.four
  have f3 := hL.blk.free 3
  have he0 : Ex g w (w.setCell ⟨g, 3, none⟩ (.int .i64 i)) := (Ex.refl _ _).setCell 3 _
  have hE : Ex2 g r w (w.setCell ⟨g, 3, none⟩ (.int .i64 i)) := (Ex2.refl _ _ _).setG 3 _
  have hL1 := hL.setAt i
  have hG := Get_any p n c xs _ (hr.ex he0 (rd_far hL hr)) hxb hn
  have hc1 : IntKind.i64.wrap (s.at_ + 1) = s.at_ + 1 := by rw [IntKind.wrap_i64]; omega
  have d1 : (i != s.at_ + 1) = false := by simp [hi.1]
  have d2 : decide ((1099511627776 : Int) < i) = false := decide_eq_false (by omega)
  have d3 : ((n : Int) == 0) = false := by rw [beq_eq_false_iff_ne]; omega
  have hsz : (w.setCell ⟨g, 3, none⟩ (.int .i64 i)).heap.size = w.heap.size := by simp [World.setCell]
  rw [hR] at hG
  unfold getV at hG
  obtain ⟨e, px, nx, cx, ms⟩ := x
  obtain ⟨Se, Sm, Sa, SH⟩ := s
  dsimp only [HE.ch] at *
  injection hx with hx1 hx2
  subst hx1
  subst hx2
  clear hi hL ha hr he0 hR
  go_enter Try.func27, Try.ntmps27
  go_wp2_with fail
  refine hm.mono ?_
  rintro o w1 ⟨rfl, hw⟩
  subst w1
  go_wp2_with fail
  refine hG.mono ?_
  rintro o w2 ⟨rfl, hb2⟩
  have hL2 := hL1.below hb2
  have hE2 : Ex2 g r w w2 := hE.trans (Ex2.of_below hb2) (Or.inl rfl)
  clear hG hm q0 q1 q2 q3 f3 hE hL1 hb2 hsz d1 d2 d3 hc1
  · skip
    have hba := below_alloc w2 (.cells #[.int .i64 k, .int .i64 nd, .int .i64 st, .int .i64 ep] 23)
    have hC := At.new 23 w2 #[.int .i64 k, .int .i64 nd, .int .i64 st, .int .i64 ep]
    have hL3 := hL2.below hba
    have hE3 : Ex2 g r w _ := hE2.trans (Ex2.of_below hba) (Or.inl rfl)
    obtain ⟨q0, q1, q2, q3⟩ := hL3.blk.four
    obtain ⟨c0, c1, c2, c3⟩ := hC.four
    have hle : w.heap.size ≤ w2.heap.size := hE2.size
    have hsz3 : (w2.alloc (.cells #[.int .i64 k, .int .i64 nd, .int .i64 st, .int .i64 ep] 23)).heap.size = w2.heap.size + 1 := by simp
    dsimp only at q0 q1 q2 q3
    clear hL2 hE2 hba
    have d1 : (ep != e) = true := by simp [hep]
    clear hep
    go_wp2_with fail
    go_region
    go_wp2_with fail
    go_ret
    exact ⟨rfl, AftF.mk r (Or.inl rfl) ⟨bc, _, H, hL3.below ((Below.refl _ _).drew), rfl, hH, hF.out⟩, hE3.trans (Ex2.of_below ((Below.refl _ _).drew)) (Or.inl rfl)⟩

set_option linter.unusedSimpArgs false in
set_option maxRecDepth 20000 in
set_option maxHeartbeats 4000000 in
theorem ApplyF_err (B0 : Nat) (g r : Nat) (s : PL) (w : World) (_hBw : B0 ≤ w.heap.size) (h : LPf B0 w g r s) (i : Int) (p : Option Addr) (n c : Nat) (xs : List Int) (hr : Rd .u8 w p n c xs) (hxb : By xs) (hn : n ≤ 1099511627776) (h0 : 0 < n) (ha : -9223372036854775808 ≤ s.at_) (hi : i = s.at_ + 1 ∧ i ≤ 1099511627776)
    (hms : s.ms.length ≤ 5864062014805) (hHl : s.H.length ≤ 1099511627776) (k nd st ep : Int) (hR : getR xs = some (k, nd, st, ep)) (hep : ep = s.e) (er : Int) (hc : chR k nd st s.e s.ms = .error er) :
    Calls Try.prog 27 #[.pointer (some ⟨g, 0, none⟩), .int .i64 i, .slice p n c] w fun o w' => o = .returned (.int .i64 er) ∧ AftF B0 w w' g r { s with at_ := i } ∧ Ex2 g r w w' := by
  obtain ⟨bc, x, H, hL, hx, hH, hF0⟩ := h
  have hF : Hid (Far B0 x H) := hF0
  clear hF0
  have hm := made_yes g r bc x s.at_ H w hL
  obtain ⟨q0, q1, q2, q3⟩ := hL.blk.four
  have f3 := hL.blk.free 3
  have he0 : Ex g w (w.setCell ⟨g, 3, none⟩ (.int .i64 i)) := (Ex.refl _ _).setCell 3 _
  have hE : Ex2 g r w (w.setCell ⟨g, 3, none⟩ (.int .i64 i)) := (Ex2.refl _ _ _).setG 3 _
  have hL1 := hL.setAt i
  have hG := Get_any p n c xs _ (hr.ex he0 (rd_far hL hr)) hxb hn
  have hc1 : IntKind.i64.wrap (s.at_ + 1) = s.at_ + 1 := by rw [IntKind.wrap_i64]; omega
  have d1 : (i != s.at_ + 1) = false := by simp [hi.1]
  have d2 : decide ((1099511627776 : Int) < i) = false := decide_eq_false (by omega)
  have d3 : ((n : Int) == 0) = false := by rw [beq_eq_false_iff_ne]; omega
  have hsz : (w.setCell ⟨g, 3, none⟩ (.int .i64 i)).heap.size = w.heap.size := by simp [World.setCell]
  rw [hR] at hG
  unfold getV at hG
  obtain ⟨e, px, nx, cx, ms⟩ := x
  obtain ⟨Se, Sm, Sa, SH⟩ := s
  dsimp only [HE.ch] at *
  injection hx with hx1 hx2
  subst hx1
  subst hx2
  clear hi hL ha hr he0 hR
  go_enter Try.func27, Try.ntmps27
  go_wp2_with fail
  refine hm.mono ?_
  rintro o w1 ⟨rfl, hw⟩
  subst w1
  go_wp2_with fail
  refine hG.mono ?_
  rintro o w2 ⟨rfl, hb2⟩
  have hL2 := hL1.below hb2
  have hE2 : Ex2 g r w w2 := hE.trans (Ex2.of_below hb2) (Or.inl rfl)
  clear hG hm q0 q1 q2 q3 f3 hE hL1 hb2 hsz d1 d2 d3 hc1
  · skip
    have hba := below_alloc w2 (.cells #[.int .i64 k, .int .i64 nd, .int .i64 st, .int .i64 ep] 23)
    have hC := At.new 23 w2 #[.int .i64 k, .int .i64 nd, .int .i64 st, .int .i64 ep]
    have hL3 := hL2.below hba
    have hE3 : Ex2 g r w _ := hE2.trans (Ex2.of_below hba) (Or.inl rfl)
    obtain ⟨q0, q1, q2, q3⟩ := hL3.blk.four
    obtain ⟨c0, c1, c2, c3⟩ := hC.four
    have hle : w.heap.size ≤ w2.heap.size := hE2.size
    have hsz3 : (w2.alloc (.cells #[.int .i64 k, .int .i64 nd, .int .i64 st, .int .i64 ep] 23)).heap.size = w2.heap.size + 1 := by simp
    dsimp only at q0 q1 q2 q3
    clear hL2 hE2 hba
    have d1 : (ep != e) = false := by simp [hep]
    have HE : Hid (CRe (chR k nd st e ms) = 0) := by unfold Hid; rw [hc]; rfl
    have HM : Hid (CRm (chR k nd st e ms) = []) := by unfold Hid; rw [hc]; rfl
    have HK : Hid (CRk (chR k nd st e ms) = er) := by unfold Hid; rw [hc]; rfl
    have her : (er != 0) = true := by have := chR_err hc; simpa using this
    have hnx : nx ≤ 5864062014805 := by have := hL3.now.1.len; dsimp only at this; omega
    clear hep hc
    go_wp2_with fail
    go_region
    go_wp2_with fail
    have hL4 := hL3.below ((Below.refl _ _).drew)
    have hE4 := hE3.trans (Ex2.of_below ((Below.refl _ _).drew)) (Or.inl rfl)
    have hC4 := hC.below ((Below.refl _ _).drew)
    have hs4 : (w2.alloc (.cells #[.int .i64 k, .int .i64 nd, .int .i64 st, .int .i64 ep] 23)).drew.heap.size = w2.heap.size + 1 := by simp
    clear hL3 hE3 hC q0 q1 q2 q3 c0 c1 c2 c3 hsz3
    generalize (w2.alloc (.cells #[.int .i64 k, .int .i64 nd, .int .i64 st, .int .i64 ep] 23)).drew = w0 at *
    generalize w2.heap.size = b4 at *
    obtain ⟨q0, q1, q2, q3⟩ := hL4.blk.four
    dsimp only at q0 q1 q2 q3
    have hS0 : Bl w0 w0.drew := (Below.refl _ _).drew
    refine wp_region_det [0, 1, 2, 3, 4, 6, 7, 8, 11] (Bl w0) (Bl w0) (by kernel_rfl) hS0 ?_
    refine wpDet_take ?vA0 (Bl.stays w0) (fun _ h => h) (i := 0) rfl (by kernel_rfl) (by kernel_rfl) (by kernel_rfl) (by kernel_rfl) (fun _ _ _ h => h) (Gives.value (by rfl) ?yA0) ?rA0
    case yA0 => (intro w' hSw; go_simp; try with_reducible rfl)
    (try simp only [Act.put, List.getElem_toArray, List.getElem_cons_zero, List.getElem_cons_succ, List.setIfInBounds_toArray, List.set_cons_zero, List.set_cons_succ])
    refine wpDet_take ?vA1 (Bl.stays w0) (fun _ h => h) (i := 1) rfl (by kernel_rfl) (by kernel_rfl) (by kernel_rfl) (by kernel_rfl) (fun _ _ _ h => h) (Gives.value (by rfl) ?yA1) ?rA1
    case yA1 => (intro w' hSw; go_simp; try with_reducible rfl)
    (try simp only [Act.put, List.getElem_toArray, List.getElem_cons_zero, List.getElem_cons_succ, List.setIfInBounds_toArray, List.set_cons_zero, List.set_cons_succ])
    refine wpDet_take ?vA2 (Bl.stays w0) (fun _ h => h) (i := 2) rfl (by kernel_rfl) (by kernel_rfl) (by kernel_rfl) (by kernel_rfl) (fun _ _ _ h => h) (Gives.value (by rfl) ?yA2) ?rA2
    case yA2 => (intro w' hSw; go_simp; try with_reducible rfl)
    (try simp only [Act.put, List.getElem_toArray, List.getElem_cons_zero, List.getElem_cons_succ, List.setIfInBounds_toArray, List.set_cons_zero, List.set_cons_succ])
    refine wpDet_take _ (Bl.stays w0) (fun _ h => h) (i := 3) rfl (by kernel_rfl) (by kernel_rfl) (by kernel_rfl) (by kernel_rfl) (fun _ _ _ h => h) (Gives.of_yields (yieldsIf_load_mid (by rfl) _ _ rfl _ _ rfl _ _ (fun W h => range2 (cell_below h q1) (cell_below h q2)) Try.underlying42 rfl sizeC)) ?_
    (try simp only [Act.put, List.getElem_toArray, List.getElem_cons_zero, List.getElem_cons_succ, List.setIfInBounds_toArray, List.set_cons_zero, List.set_cons_succ])
    refine wpDet_take _ (Bl.stays w0) (fun _ h => h) (i := 4) rfl (by kernel_rfl) (by kernel_rfl) (by kernel_rfl) (by kernel_rfl) (fun _ _ _ h => h) (Gives.of_yields (yieldsIf_load_mid (by rfl) _ _ rfl _ _ rfl _ _ (fun W h => range4 (hC4.below h)) Try.underlying23 rfl cmd_info)) ?_
    (try simp only [Act.put, List.getElem_toArray, List.getElem_cons_zero, List.getElem_cons_succ, List.setIfInBounds_toArray, List.set_cons_zero, List.set_cons_succ])
    refine wpDet_ready (rs := [5, 9]) (by kernel_rfl) (by simp) (AllDet.cons rfl (fun V hV K hK => ?_) (AllDet.cons rfl (fun V hV K hK => ?_) AllDet.nil))
    · rw [if_pos (by rfl)]
      have hCv := change_is k nd st ep e px nx cx ms V (hL4.now.1.below hV) hnx 0 er [] HE.out HM.out HK.out
      refine wp_enterE 53 #[.agg #[.int .i64 e, .slice px nx cx], .agg #[.int .i64 k, .int .i64 nd, .int .i64 st, .int .i64 ep]] (by first | (go_simp; done) | (go_simp; rfl)) (fun v W => (∃ q cc, v = .tuple #[.agg #[.int .i64 0, .slice q ([] : List Mb).length cc], .int .i64 er] ∧ (∀ a, q = some a → 0 < ([] : List Mb).length → V.heap.size ≤ a.block) ∧ RdM W q ([] : List Mb).length cc []) ∧ Below V.heap.size V W) (hCv.mono fun e' w' hh => by obtain ⟨v, h1, h2, h3⟩ := hh; exact ⟨v, h1, h2, h3⟩) ?_
      rintro v7 V7 ⟨⟨q, cc, rfl, hq, hrq⟩, hb7⟩
      obtain ⟨N, HN⟩ : ∃ N, Hid (([] : List Mb).length = N) := ⟨_, rfl⟩
      rw [HN.out] at hq hrq ⊢
      refine hK.out (Br w0 q N cc []) _ _ (Br.stays w0 _ _ _ _) (fun _ _ h => h.1) ⟨Bl.stays w0 V V7 hV hb7, hrq⟩ ?_
      have hql : ∀ a, q = some a → 0 < N → w0.heap.size ≤ a.block := fun a ha h0 => Nat.le_trans (Bl.out hV).size (hq a ha h0)
      clear hK K hCv hb7 hV hrq hq
      (try simp only [Act.put, List.getElem_toArray, List.getElem_cons_zero, List.getElem_cons_succ, List.setIfInBounds_toArray, List.set_cons_zero, List.set_cons_succ])
      refine wpDet_take ?vB6 (Br.stays w0 _ _ _ _) (fun _ h => h.1) (i := 6) rfl (by kernel_rfl) (by kernel_rfl) (by kernel_rfl) (by kernel_rfl) (fun _ _ _ h => h) (Gives.value (by rfl) ?yB6) ?rB6
      case yB6 => (intro w' hSw; go_simp; try with_reducible rfl)
      (try simp only [Act.put, List.getElem_toArray, List.getElem_cons_zero, List.getElem_cons_succ, List.setIfInBounds_toArray, List.set_cons_zero, List.set_cons_succ])
      refine wpDet_take ?vB7 (Br.stays w0 _ _ _ _) (fun _ h => h.1) (i := 7) rfl (by kernel_rfl) (by kernel_rfl) (by kernel_rfl) (by kernel_rfl) (fun _ _ _ h => h) (Gives.value (by rfl) ?yB7) ?rB7
      case yB7 => (intro w' hSw; go_simp; try with_reducible rfl)
      (try simp only [Act.put, List.getElem_toArray, List.getElem_cons_zero, List.getElem_cons_succ, List.setIfInBounds_toArray, List.set_cons_zero, List.set_cons_succ])
      refine wpDet_take ?vB8 (Br.stays w0 _ _ _ _) (fun _ h => h.1) (i := 8) rfl (by kernel_rfl) (by kernel_rfl) (by kernel_rfl) (by kernel_rfl) (fun _ _ _ h => h) (Gives.value (by rfl) ?yB8) ?rB8
      case yB8 => (intro w' hSw; go_simp; try with_reducible rfl)
      (try simp only [Act.put, List.getElem_toArray, List.getElem_cons_zero, List.getElem_cons_succ, List.setIfInBounds_toArray, List.set_cons_zero, List.set_cons_succ])
      refine wpDet_ready (rs := [9]) (by kernel_rfl) (by simp) (AllDet.cons rfl (fun V hV K hK => ?_) AllDet.nil)
      rw [if_pos (by rfl)]
      refine wp_value (.pointer (some ⟨V.heap.size, 0, none⟩)) (V.alloc (.cells #[.int .i64 0, .slice none 0 0] 42)) (by first | (go_simp; done) | (go_simp; rfl)) ?_
      have hqx : ∀ a, q = some a → 0 < N → a.block ≠ V.heap.size := fun a ha h0 => Nat.ne_of_lt (rd_lt hV.2 ha h0)
      have hxl : w0.heap.size ≤ V.heap.size := (Bl.out hV.1).size
      refine hK.out (fun W => Br w0 q N cc [] W ∧ Bx w0 V.heap.size W) _ _ ((Br.stays w0 _ _ _ _).and (Bx.stays w0 _)) (fun _ _ h => h.1.1) ⟨Br.stays w0 _ _ _ _ V _ hV ((Below.refl _ _).alloc (Nat.le_refl _) _), Bl.stays w0 V _ hV.1 ((Below.refl _ _).alloc (Nat.le_refl _) _), heap_alloc_new _ _⟩ ?_
      clear hK K hV
      generalize V.heap.size = x at *
      (try simp only [Act.put, List.getElem_toArray, List.getElem_cons_zero, List.getElem_cons_succ, List.setIfInBounds_toArray, List.set_cons_zero, List.set_cons_succ])
      refine wpDet_ready (rs := [10]) (by kernel_rfl) (by simp) (AllDet.cons rfl (fun V hV K hK => ?_) AllDet.nil)
      rw [if_pos (by rfl)]
      have y0 := cell_row hV.2.2 (j := 0) (v := .int .i64 0) rfl
      have y1 := cell_row hV.2.2 (j := 1) (v := .slice none 0 0) rfl
      have g0 := frozen_of_row V x 0 _ _ hV.2.2
      have g1 := frozen_of_row V x 1 _ _ hV.2.2
      have hth : V.there x 0 2 := fun j hj => by rw [Nat.zero_add]; match j, hj with | 0, _ => exact ⟨by rw [y0]; rfl, g0⟩ | 1, _ => exact ⟨by rw [y1]; rfl, g1⟩
      refine wp_store_mid 42 _ _ rfl x 0 #[.int .i64 0, .slice q N cc] rfl rfl hth sizeC (one2 _ _ _ _) ?_
      have hz : Bz w0.heap.size w0 x 0 q N cc [] ((V.setCell ⟨x, 0, none⟩ (.int .i64 0)).setCell ⟨x, 1, none⟩ (.slice q N cc)) := ⟨Gr.putB (Bl.out hV.1.1) hxl _ _, hV.1.2.put _ _ (fun a ha h0 => hqx a ha h0), two0 y0, two1 y1, by have := (Bl.out hV.1.1).size; simp; omega⟩
      refine hK.out (Bz w0.heap.size w0 x 0 q N cc []) _ _ (Bz.stays _ _ _ _ _ _ _ _) (fun _ _ h => h.1) hz ?_
      clear hK K hV hth hz y0 y1 g0 g1
      (try simp only [Act.put, List.getElem_toArray, List.getElem_cons_zero, List.getElem_cons_succ, List.setIfInBounds_toArray, List.set_cons_zero, List.set_cons_succ])
      refine wpDet_take ?vC11 (Bz.stays _ _ _ _ _ _ _ _) (fun _ h => h.1) (i := 11) rfl (by kernel_rfl) (by kernel_rfl) (by kernel_rfl) (by kernel_rfl) (fun _ _ _ h => h) (Gives.value (by rfl) ?yC11) ?rC11
      case yC11 => (intro w' hSw; go_simp; try with_reducible rfl)
      (try simp only [Act.put, List.getElem_toArray, List.getElem_cons_zero, List.getElem_cons_succ, List.setIfInBounds_toArray, List.set_cons_zero, List.set_cons_succ])
      refine wpDet_done (by kernel_rfl) (fun W3 hV => ?_) _
      obtain ⟨hb3, rq, z0, z1, hs3⟩ := hV
      have hL5 := hL4.below hb3
      have hE5 := hE4.trans (Ex2.of_below hb3) (Or.inl rfl)
      have hlg : g < w0.heap.size := hL4.blk.lt
      have hlr : r < w0.heap.size := hL4.lr
      clear hL4 hE4 hC4 q0 q1 q2 q3 hS0 HE HM HK
      obtain ⟨q0, q1, q2, q3⟩ := hL5.blk.four
      dsimp only at q0 q1 q2 q3
      go_wp2_with fail
      go_ret
      exact ⟨rfl, AftF.mk r (Or.inl rfl) ⟨bc, _, H, hL5, rfl, hH, hF.out⟩, hE5⟩
    · rw [if_pos (by rfl)]
      refine wp_value (.pointer (some ⟨V.heap.size, 0, none⟩)) (V.alloc (.cells #[.int .i64 0, .slice none 0 0] 42)) (by first | (go_simp; done) | (go_simp; rfl)) ?_
      have hxl : w0.heap.size ≤ V.heap.size := (Bl.out hV).size
      refine hK.out (Bx w0 V.heap.size) _ _ (Bx.stays w0 _) (fun _ _ h => h.1) ⟨Bl.stays w0 V _ hV ((Below.refl _ _).alloc (Nat.le_refl _) _), heap_alloc_new _ _⟩ ?_
      clear hK K hV
      generalize V.heap.size = x at *
      (try simp only [Act.put, List.getElem_toArray, List.getElem_cons_zero, List.getElem_cons_succ, List.setIfInBounds_toArray, List.set_cons_zero, List.set_cons_succ])
      refine wpDet_ready (rs := [5]) (by kernel_rfl) (by simp) (AllDet.cons rfl (fun V hV K hK => ?_) AllDet.nil)
      rw [if_pos (by rfl)]
      have hCv := change_is k nd st ep e px nx cx ms V (hL4.now.1.below hV.1) hnx 0 er [] HE.out HM.out HK.out
      refine wp_enterE 53 #[.agg #[.int .i64 e, .slice px nx cx], .agg #[.int .i64 k, .int .i64 nd, .int .i64 st, .int .i64 ep]] (by first | (go_simp; done) | (go_simp; rfl)) (fun v W => (∃ q cc, v = .tuple #[.agg #[.int .i64 0, .slice q ([] : List Mb).length cc], .int .i64 er] ∧ (∀ a, q = some a → 0 < ([] : List Mb).length → V.heap.size ≤ a.block) ∧ RdM W q ([] : List Mb).length cc []) ∧ Below V.heap.size V W) (hCv.mono fun e' w' hh => by obtain ⟨v, h1, h2, h3⟩ := hh; exact ⟨v, h1, h2, h3⟩) ?_
      rintro v7 V7 ⟨⟨q, cc, rfl, hq, hrq⟩, hb7⟩
      obtain ⟨N, HN⟩ : ∃ N, Hid (([] : List Mb).length = N) := ⟨_, rfl⟩
      rw [HN.out] at hq hrq ⊢
      have hqx : ∀ a, q = some a → 0 < N → a.block ≠ x := fun a ha h0 => Nat.ne_of_gt (Nat.lt_of_lt_of_le (Array.getElem?_eq_some_iff.1 hV.2).1 (hq a ha h0))
      have hql : ∀ a, q = some a → 0 < N → w0.heap.size ≤ a.block := fun a ha h0 => Nat.le_trans (Bl.out hV.1).size (hq a ha h0)
      refine hK.out (fun W => Br w0 q N cc [] W ∧ Bx w0 x W) _ _ ((Br.stays w0 _ _ _ _).and (Bx.stays w0 _)) (fun _ _ h => h.1.1) ⟨⟨Bl.stays w0 V V7 hV.1 hb7, hrq⟩, Bx.stays w0 x V V7 hV hb7⟩ ?_
      clear hK K hCv hb7 hV hrq hq
      (try simp only [Act.put, List.getElem_toArray, List.getElem_cons_zero, List.getElem_cons_succ, List.setIfInBounds_toArray, List.set_cons_zero, List.set_cons_succ])
      refine wpDet_take ?vD6 ((Br.stays w0 _ _ _ _).and (Bx.stays w0 _)) (fun _ h => h.1.1) (i := 6) rfl (by kernel_rfl) (by kernel_rfl) (by kernel_rfl) (by kernel_rfl) (fun _ _ _ h => h) (Gives.value (by rfl) ?yD6) ?rD6
      case yD6 => (intro w' hSw; go_simp; try with_reducible rfl)
      (try simp only [Act.put, List.getElem_toArray, List.getElem_cons_zero, List.getElem_cons_succ, List.setIfInBounds_toArray, List.set_cons_zero, List.set_cons_succ])
      refine wpDet_take ?vD7 ((Br.stays w0 _ _ _ _).and (Bx.stays w0 _)) (fun _ h => h.1.1) (i := 7) rfl (by kernel_rfl) (by kernel_rfl) (by kernel_rfl) (by kernel_rfl) (fun _ _ _ h => h) (Gives.value (by rfl) ?yD7) ?rD7
      case yD7 => (intro w' hSw; go_simp; try with_reducible rfl)
      (try simp only [Act.put, List.getElem_toArray, List.getElem_cons_zero, List.getElem_cons_succ, List.setIfInBounds_toArray, List.set_cons_zero, List.set_cons_succ])
      refine wpDet_take ?vD8 ((Br.stays w0 _ _ _ _).and (Bx.stays w0 _)) (fun _ h => h.1.1) (i := 8) rfl (by kernel_rfl) (by kernel_rfl) (by kernel_rfl) (by kernel_rfl) (fun _ _ _ h => h) (Gives.value (by rfl) ?yD8) ?rD8
      case yD8 => (intro w' hSw; go_simp; try with_reducible rfl)
      (try simp only [Act.put, List.getElem_toArray, List.getElem_cons_zero, List.getElem_cons_succ, List.setIfInBounds_toArray, List.set_cons_zero, List.set_cons_succ])
      refine wpDet_ready (rs := [10]) (by kernel_rfl) (by simp) (AllDet.cons rfl (fun V hV K hK => ?_) AllDet.nil)
      rw [if_pos (by rfl)]
      have y0 := cell_row hV.2.2 (j := 0) (v := .int .i64 0) rfl
      have y1 := cell_row hV.2.2 (j := 1) (v := .slice none 0 0) rfl
      have g0 := frozen_of_row V x 0 _ _ hV.2.2
      have g1 := frozen_of_row V x 1 _ _ hV.2.2
      have hth : V.there x 0 2 := fun j hj => by rw [Nat.zero_add]; match j, hj with | 0, _ => exact ⟨by rw [y0]; rfl, g0⟩ | 1, _ => exact ⟨by rw [y1]; rfl, g1⟩
      refine wp_store_mid 42 _ _ rfl x 0 #[.int .i64 0, .slice q N cc] rfl rfl hth sizeC (one2 _ _ _ _) ?_
      have hz : Bz w0.heap.size w0 x 0 q N cc [] ((V.setCell ⟨x, 0, none⟩ (.int .i64 0)).setCell ⟨x, 1, none⟩ (.slice q N cc)) := ⟨Gr.putB (Bl.out hV.1.1) hxl _ _, hV.1.2.put _ _ (fun a ha h0 => hqx a ha h0), two0 y0, two1 y1, by have := (Bl.out hV.1.1).size; simp; omega⟩
      refine hK.out (Bz w0.heap.size w0 x 0 q N cc []) _ _ (Bz.stays _ _ _ _ _ _ _ _) (fun _ _ h => h.1) hz ?_
      clear hK K hV hth hz y0 y1 g0 g1
      (try simp only [Act.put, List.getElem_toArray, List.getElem_cons_zero, List.getElem_cons_succ, List.setIfInBounds_toArray, List.set_cons_zero, List.set_cons_succ])
      refine wpDet_take ?vE11 (Bz.stays _ _ _ _ _ _ _ _) (fun _ h => h.1) (i := 11) rfl (by kernel_rfl) (by kernel_rfl) (by kernel_rfl) (by kernel_rfl) (fun _ _ _ h => h) (Gives.value (by rfl) ?yE11) ?rE11
      case yE11 => (intro w' hSw; go_simp; try with_reducible rfl)
      (try simp only [Act.put, List.getElem_toArray, List.getElem_cons_zero, List.getElem_cons_succ, List.setIfInBounds_toArray, List.set_cons_zero, List.set_cons_succ])
      refine wpDet_done (by kernel_rfl) (fun W3 hV => ?_) _
      obtain ⟨hb3, rq, z0, z1, hs3⟩ := hV
      have hL5 := hL4.below hb3
      have hE5 := hE4.trans (Ex2.of_below hb3) (Or.inl rfl)
      have hlg : g < w0.heap.size := hL4.blk.lt
      have hlr : r < w0.heap.size := hL4.lr
      clear hL4 hE4 hC4 q0 q1 q2 q3 hS0 HE HM HK
      obtain ⟨q0, q1, q2, q3⟩ := hL5.blk.four
      dsimp only at q0 q1 q2 q3
      go_wp2_with fail
      go_ret
      exact ⟨rfl, AftF.mk r (Or.inl rfl) ⟨bc, _, H, hL5, rfl, hH, hF.out⟩, hE5⟩

set_option linter.unusedSimpArgs false in
set_option maxRecDepth 20000 in
set_option maxHeartbeats 4000000 in
theorem ApplyF_rdy (B0 : Nat) (g r : Nat) (s : PL) (w : World) (hBw : B0 ≤ w.heap.size) (h : LPf B0 w g r s) (i : Int) (p : Option Addr) (n c : Nat) (xs : List Int) (hr : Rd .u8 w p n c xs) (hxb : By xs) (hn : n ≤ 1099511627776) (h0 : 0 < n) (ha : -9223372036854775808 ≤ s.at_) (hi : i = s.at_ + 1 ∧ i ≤ 1099511627776)
    (hms : s.ms.length ≤ 5864062014805) (hHl : s.H.length ≤ 1099511627776) (k nd st ep : Int) (hR : getR xs = some (k, nd, st, ep)) (hep : ep = s.e) (E : Int) (M : List Mb) (hc : chR k nd st s.e s.ms = .ok (E, M)) (hlt : ¬ s.e < E) :
    Calls Try.prog 27 #[.pointer (some ⟨g, 0, none⟩), .int .i64 i, .slice p n c] w fun o w' => o = .returned (.int .i64 0) ∧ AftF B0 w w' g r ⟨E, M, i, s.H⟩ ∧ Ex2 g r w w' := by
  obtain ⟨bc, x, H, hL, hx, hH, hF0⟩ := h
  have hF : Hid (Far B0 x H) := hF0
  clear hF0
  have hm := made_yes g r bc x s.at_ H w hL
  obtain ⟨q0, q1, q2, q3⟩ := hL.blk.four
  have f3 := hL.blk.free 3
  have he0 : Ex g w (w.setCell ⟨g, 3, none⟩ (.int .i64 i)) := (Ex.refl _ _).setCell 3 _
  have hE : Ex2 g r w (w.setCell ⟨g, 3, none⟩ (.int .i64 i)) := (Ex2.refl _ _ _).setG 3 _
  have hL1 := hL.setAt i
  have hG := Get_any p n c xs _ (hr.ex he0 (rd_far hL hr)) hxb hn
  have hc1 : IntKind.i64.wrap (s.at_ + 1) = s.at_ + 1 := by rw [IntKind.wrap_i64]; omega
  have d1 : (i != s.at_ + 1) = false := by simp [hi.1]
  have d2 : decide ((1099511627776 : Int) < i) = false := decide_eq_false (by omega)
  have d3 : ((n : Int) == 0) = false := by rw [beq_eq_false_iff_ne]; omega
  have hsz : (w.setCell ⟨g, 3, none⟩ (.int .i64 i)).heap.size = w.heap.size := by simp [World.setCell]
  rw [hR] at hG
  unfold getV at hG
  obtain ⟨e, px, nx, cx, ms⟩ := x
  obtain ⟨Se, Sm, Sa, SH⟩ := s
  dsimp only [HE.ch] at *
  injection hx with hx1 hx2
  subst hx1
  subst hx2
  clear hi hL ha hr he0 hR
  go_enter Try.func27, Try.ntmps27
  go_wp2_with fail
  refine hm.mono ?_
  rintro o w1 ⟨rfl, hw⟩
  subst w1
  go_wp2_with fail
  refine hG.mono ?_
  rintro o w2 ⟨rfl, hb2⟩
  have hL2 := hL1.below hb2
  have hE2 : Ex2 g r w w2 := hE.trans (Ex2.of_below hb2) (Or.inl rfl)
  clear hG hm q0 q1 q2 q3 f3 hE hL1 hb2 hsz d1 d2 d3 hc1
  · skip
    have hba := below_alloc w2 (.cells #[.int .i64 k, .int .i64 nd, .int .i64 st, .int .i64 ep] 23)
    have hC := At.new 23 w2 #[.int .i64 k, .int .i64 nd, .int .i64 st, .int .i64 ep]
    have hL3 := hL2.below hba
    have hE3 : Ex2 g r w _ := hE2.trans (Ex2.of_below hba) (Or.inl rfl)
    obtain ⟨q0, q1, q2, q3⟩ := hL3.blk.four
    obtain ⟨c0, c1, c2, c3⟩ := hC.four
    have hle : w.heap.size ≤ w2.heap.size := hE2.size
    have hsz3 : (w2.alloc (.cells #[.int .i64 k, .int .i64 nd, .int .i64 st, .int .i64 ep] 23)).heap.size = w2.heap.size + 1 := by simp
    dsimp only at q0 q1 q2 q3
    clear hL2 hE2 hba
    have d1 : (ep != e) = false := by simp [hep]
    have HE : Hid (CRe (chR k nd st e ms) = E) := by unfold Hid; rw [hc]; rfl
    have HM : Hid (CRm (chR k nd st e ms) = M) := by unfold Hid; rw [hc]; rfl
    have HK : Hid (CRk (chR k nd st e ms) = 0) := by unfold Hid; rw [hc]; rfl
    have hltd : decide (e < E) = false := by simpa using hlt
    have hnx : nx ≤ 5864062014805 := by have := hL3.now.1.len; dsimp only at this; omega
    clear hep hc
    go_wp2_with fail
    go_region
    go_wp2_with fail
    have hL4 := hL3.below ((Below.refl _ _).drew)
    have hE4 := hE3.trans (Ex2.of_below ((Below.refl _ _).drew)) (Or.inl rfl)
    have hC4 := hC.below ((Below.refl _ _).drew)
    have hs4 : (w2.alloc (.cells #[.int .i64 k, .int .i64 nd, .int .i64 st, .int .i64 ep] 23)).drew.heap.size = w2.heap.size + 1 := by simp
    clear hL3 hE3 hC q0 q1 q2 q3 c0 c1 c2 c3 hsz3
    generalize (w2.alloc (.cells #[.int .i64 k, .int .i64 nd, .int .i64 st, .int .i64 ep] 23)).drew = w0 at *
    generalize w2.heap.size = b4 at *
    obtain ⟨q0, q1, q2, q3⟩ := hL4.blk.four
    dsimp only at q0 q1 q2 q3
    have hS0 : Bl w0 w0.drew := (Below.refl _ _).drew
    refine wp_region_det [0, 1, 2, 3, 4, 6, 7, 8, 11] (Bl w0) (Bl w0) (by kernel_rfl) hS0 ?_
    refine wpDet_take ?vA0 (Bl.stays w0) (fun _ h => h) (i := 0) rfl (by kernel_rfl) (by kernel_rfl) (by kernel_rfl) (by kernel_rfl) (fun _ _ _ h => h) (Gives.value (by rfl) ?yA0) ?rA0
    case yA0 => (intro w' hSw; go_simp; try with_reducible rfl)
    (try simp only [Act.put, List.getElem_toArray, List.getElem_cons_zero, List.getElem_cons_succ, List.setIfInBounds_toArray, List.set_cons_zero, List.set_cons_succ])
    refine wpDet_take ?vA1 (Bl.stays w0) (fun _ h => h) (i := 1) rfl (by kernel_rfl) (by kernel_rfl) (by kernel_rfl) (by kernel_rfl) (fun _ _ _ h => h) (Gives.value (by rfl) ?yA1) ?rA1
    case yA1 => (intro w' hSw; go_simp; try with_reducible rfl)
    (try simp only [Act.put, List.getElem_toArray, List.getElem_cons_zero, List.getElem_cons_succ, List.setIfInBounds_toArray, List.set_cons_zero, List.set_cons_succ])
    refine wpDet_take ?vA2 (Bl.stays w0) (fun _ h => h) (i := 2) rfl (by kernel_rfl) (by kernel_rfl) (by kernel_rfl) (by kernel_rfl) (fun _ _ _ h => h) (Gives.value (by rfl) ?yA2) ?rA2
    case yA2 => (intro w' hSw; go_simp; try with_reducible rfl)
    (try simp only [Act.put, List.getElem_toArray, List.getElem_cons_zero, List.getElem_cons_succ, List.setIfInBounds_toArray, List.set_cons_zero, List.set_cons_succ])
    refine wpDet_take _ (Bl.stays w0) (fun _ h => h) (i := 3) rfl (by kernel_rfl) (by kernel_rfl) (by kernel_rfl) (by kernel_rfl) (fun _ _ _ h => h) (Gives.of_yields (yieldsIf_load_mid (by rfl) _ _ rfl _ _ rfl _ _ (fun W h => range2 (cell_below h q1) (cell_below h q2)) Try.underlying42 rfl sizeC)) ?_
    (try simp only [Act.put, List.getElem_toArray, List.getElem_cons_zero, List.getElem_cons_succ, List.setIfInBounds_toArray, List.set_cons_zero, List.set_cons_succ])
    refine wpDet_take _ (Bl.stays w0) (fun _ h => h) (i := 4) rfl (by kernel_rfl) (by kernel_rfl) (by kernel_rfl) (by kernel_rfl) (fun _ _ _ h => h) (Gives.of_yields (yieldsIf_load_mid (by rfl) _ _ rfl _ _ rfl _ _ (fun W h => range4 (hC4.below h)) Try.underlying23 rfl cmd_info)) ?_
    (try simp only [Act.put, List.getElem_toArray, List.getElem_cons_zero, List.getElem_cons_succ, List.setIfInBounds_toArray, List.set_cons_zero, List.set_cons_succ])
    refine wpDet_ready (rs := [5, 9]) (by kernel_rfl) (by simp) (AllDet.cons rfl (fun V hV K hK => ?_) (AllDet.cons rfl (fun V hV K hK => ?_) AllDet.nil))
    · rw [if_pos (by rfl)]
      have hCv := change_is k nd st ep e px nx cx ms V (hL4.now.1.below hV) hnx E 0 M HE.out HM.out HK.out
      refine wp_enterE 53 #[.agg #[.int .i64 e, .slice px nx cx], .agg #[.int .i64 k, .int .i64 nd, .int .i64 st, .int .i64 ep]] (by first | (go_simp; done) | (go_simp; rfl)) (fun v W => (∃ q cc, v = .tuple #[.agg #[.int .i64 E, .slice q (M : List Mb).length cc], .int .i64 0] ∧ (∀ a, q = some a → 0 < (M : List Mb).length → V.heap.size ≤ a.block) ∧ RdM W q (M : List Mb).length cc M) ∧ Below V.heap.size V W) (hCv.mono fun e' w' hh => by obtain ⟨v, h1, h2, h3⟩ := hh; exact ⟨v, h1, h2, h3⟩) ?_
      rintro v7 V7 ⟨⟨q, cc, rfl, hq, hrq⟩, hb7⟩
      obtain ⟨N, HN⟩ : ∃ N, Hid ((M : List Mb).length = N) := ⟨_, rfl⟩
      rw [HN.out] at hq hrq ⊢
      refine hK.out (Br w0 q N cc M) _ _ (Br.stays w0 _ _ _ _) (fun _ _ h => h.1) ⟨Bl.stays w0 V V7 hV hb7, hrq⟩ ?_
      have hql : ∀ a, q = some a → 0 < N → w0.heap.size ≤ a.block := fun a ha h0 => Nat.le_trans (Bl.out hV).size (hq a ha h0)
      have HQF : Hid (∀ a, q = some a → 0 < N → B0 ≤ a.block) := fun a ha h0 => Nat.le_trans hBw (Nat.le_trans hE4.size (hql a ha h0))
      clear hK K hCv hb7 hV hrq hq
      (try simp only [Act.put, List.getElem_toArray, List.getElem_cons_zero, List.getElem_cons_succ, List.setIfInBounds_toArray, List.set_cons_zero, List.set_cons_succ])
      refine wpDet_take ?vB6 (Br.stays w0 _ _ _ _) (fun _ h => h.1) (i := 6) rfl (by kernel_rfl) (by kernel_rfl) (by kernel_rfl) (by kernel_rfl) (fun _ _ _ h => h) (Gives.value (by rfl) ?yB6) ?rB6
      case yB6 => (intro w' hSw; go_simp; try with_reducible rfl)
      (try simp only [Act.put, List.getElem_toArray, List.getElem_cons_zero, List.getElem_cons_succ, List.setIfInBounds_toArray, List.set_cons_zero, List.set_cons_succ])
      refine wpDet_take ?vB7 (Br.stays w0 _ _ _ _) (fun _ h => h.1) (i := 7) rfl (by kernel_rfl) (by kernel_rfl) (by kernel_rfl) (by kernel_rfl) (fun _ _ _ h => h) (Gives.value (by rfl) ?yB7) ?rB7
      case yB7 => (intro w' hSw; go_simp; try with_reducible rfl)
      (try simp only [Act.put, List.getElem_toArray, List.getElem_cons_zero, List.getElem_cons_succ, List.setIfInBounds_toArray, List.set_cons_zero, List.set_cons_succ])
      refine wpDet_take ?vB8 (Br.stays w0 _ _ _ _) (fun _ h => h.1) (i := 8) rfl (by kernel_rfl) (by kernel_rfl) (by kernel_rfl) (by kernel_rfl) (fun _ _ _ h => h) (Gives.value (by rfl) ?yB8) ?rB8
      case yB8 => (intro w' hSw; go_simp; try with_reducible rfl)
      (try simp only [Act.put, List.getElem_toArray, List.getElem_cons_zero, List.getElem_cons_succ, List.setIfInBounds_toArray, List.set_cons_zero, List.set_cons_succ])
      refine wpDet_ready (rs := [9]) (by kernel_rfl) (by simp) (AllDet.cons rfl (fun V hV K hK => ?_) AllDet.nil)
      rw [if_pos (by rfl)]
      refine wp_value (.pointer (some ⟨V.heap.size, 0, none⟩)) (V.alloc (.cells #[.int .i64 0, .slice none 0 0] 42)) (by first | (go_simp; done) | (go_simp; rfl)) ?_
      have hqx : ∀ a, q = some a → 0 < N → a.block ≠ V.heap.size := fun a ha h0 => Nat.ne_of_lt (rd_lt hV.2 ha h0)
      have hxl : w0.heap.size ≤ V.heap.size := (Bl.out hV.1).size
      refine hK.out (fun W => Br w0 q N cc M W ∧ Bx w0 V.heap.size W) _ _ ((Br.stays w0 _ _ _ _).and (Bx.stays w0 _)) (fun _ _ h => h.1.1) ⟨Br.stays w0 _ _ _ _ V _ hV ((Below.refl _ _).alloc (Nat.le_refl _) _), Bl.stays w0 V _ hV.1 ((Below.refl _ _).alloc (Nat.le_refl _) _), heap_alloc_new _ _⟩ ?_
      clear hK K hV
      generalize V.heap.size = x at *
      (try simp only [Act.put, List.getElem_toArray, List.getElem_cons_zero, List.getElem_cons_succ, List.setIfInBounds_toArray, List.set_cons_zero, List.set_cons_succ])
      refine wpDet_ready (rs := [10]) (by kernel_rfl) (by simp) (AllDet.cons rfl (fun V hV K hK => ?_) AllDet.nil)
      rw [if_pos (by rfl)]
      have y0 := cell_row hV.2.2 (j := 0) (v := .int .i64 0) rfl
      have y1 := cell_row hV.2.2 (j := 1) (v := .slice none 0 0) rfl
      have g0 := frozen_of_row V x 0 _ _ hV.2.2
      have g1 := frozen_of_row V x 1 _ _ hV.2.2
      have hth : V.there x 0 2 := fun j hj => by rw [Nat.zero_add]; match j, hj with | 0, _ => exact ⟨by rw [y0]; rfl, g0⟩ | 1, _ => exact ⟨by rw [y1]; rfl, g1⟩
      refine wp_store_mid 42 _ _ rfl x 0 #[.int .i64 E, .slice q N cc] rfl rfl hth sizeC (one2 _ _ _ _) ?_
      have hz : Bz w0.heap.size w0 x E q N cc M ((V.setCell ⟨x, 0, none⟩ (.int .i64 E)).setCell ⟨x, 1, none⟩ (.slice q N cc)) := ⟨Gr.putB (Bl.out hV.1.1) hxl _ _, hV.1.2.put _ _ (fun a ha h0 => hqx a ha h0), two0 y0, two1 y1, by have := (Bl.out hV.1.1).size; simp; omega⟩
      refine hK.out (Bz w0.heap.size w0 x E q N cc M) _ _ (Bz.stays _ _ _ _ _ _ _ _) (fun _ _ h => h.1) hz ?_
      clear hK K hV hth hz y0 y1 g0 g1
      (try simp only [Act.put, List.getElem_toArray, List.getElem_cons_zero, List.getElem_cons_succ, List.setIfInBounds_toArray, List.set_cons_zero, List.set_cons_succ])
      refine wpDet_take ?vC11 (Bz.stays _ _ _ _ _ _ _ _) (fun _ h => h.1) (i := 11) rfl (by kernel_rfl) (by kernel_rfl) (by kernel_rfl) (by kernel_rfl) (fun _ _ _ h => h) (Gives.value (by rfl) ?yC11) ?rC11
      case yC11 => (intro w' hSw; go_simp; try with_reducible rfl)
      (try simp only [Act.put, List.getElem_toArray, List.getElem_cons_zero, List.getElem_cons_succ, List.setIfInBounds_toArray, List.set_cons_zero, List.set_cons_succ])
      refine wpDet_done (by kernel_rfl) (fun W3 hV => ?_) _
      obtain ⟨hb3, rq, z0, z1, hs3⟩ := hV
      have hL5 := hL4.below hb3
      have hE5 := hE4.trans (Ex2.of_below hb3) (Or.inl rfl)
      have hlg : g < w0.heap.size := hL4.blk.lt
      have hlr : r < w0.heap.size := hL4.lr
      clear hL4 hE4 hC4 q0 q1 q2 q3 hS0 HE HM HK
      obtain ⟨q0, q1, q2, q3⟩ := hL5.blk.four
      dsimp only at q0 q1 q2 q3
      go_wp2_with fail
      go_region
      have hL6 := hL5.below ((Below.refl _ _).drew)
      have hE6 := hE5.trans (Ex2.of_below ((Below.refl _ _).drew)) (Or.inl rfl)
      have rq6 := rq.below ((Below.refl _ _).drew)
      have hq6 : ∀ a, q = some a → 0 < N → a.block ≠ r := fun a ha h0 => by have := hql a ha h0; omega
      replace z0 := cell_below ((Below.refl _ _).drew) z0
      replace z1 := cell_below ((Below.refl _ _).drew) z1
      generalize W3.drew = W6 at *
      obtain ⟨r6, hr6⟩ : ∃ z, z = r := ⟨_, rfl⟩
      rw [← hr6] at hL6 hq6
      have hxg : x ≠ g := by omega
      have fz1 := hL6.blk.free 1
      have fz2 := hL6.blk.free 2
      obtain ⟨p0, p1, p2, p3⟩ := hL6.blk.four
      dsimp only at p0 p1 p2 p3
      have hf : (⟨E, q, N, cc, M⟩ : HE).rd W6 g r6 := ⟨rq6, fun a ha h0 => by have := hql a ha h0; exact ⟨by omega, hq6 a ha h0⟩⟩
      have hL7 := hL6.setNow hf
      have hE7 : Ex2 g r w ((W6.setCell ⟨g, 1, none⟩ (.int .i64 E)).setCell ⟨g, 2, none⟩ (.slice q N cc)) := (hE6.setG 1 _).setG 2 _
      clear hL6 hE6 hf q0 q1 q2 q3
      go_wp2_with fail
      go_ret
      exact ⟨rfl, AftF.mk r6 (Or.inl hr6) ⟨bc, _, H, hL7, rfl, hH, hF.out.now HQF.out⟩, hE7⟩
    · rw [if_pos (by rfl)]
      refine wp_value (.pointer (some ⟨V.heap.size, 0, none⟩)) (V.alloc (.cells #[.int .i64 0, .slice none 0 0] 42)) (by first | (go_simp; done) | (go_simp; rfl)) ?_
      have hxl : w0.heap.size ≤ V.heap.size := (Bl.out hV).size
      refine hK.out (Bx w0 V.heap.size) _ _ (Bx.stays w0 _) (fun _ _ h => h.1) ⟨Bl.stays w0 V _ hV ((Below.refl _ _).alloc (Nat.le_refl _) _), heap_alloc_new _ _⟩ ?_
      clear hK K hV
      generalize V.heap.size = x at *
      (try simp only [Act.put, List.getElem_toArray, List.getElem_cons_zero, List.getElem_cons_succ, List.setIfInBounds_toArray, List.set_cons_zero, List.set_cons_succ])
      refine wpDet_ready (rs := [5]) (by kernel_rfl) (by simp) (AllDet.cons rfl (fun V hV K hK => ?_) AllDet.nil)
      rw [if_pos (by rfl)]
      have hCv := change_is k nd st ep e px nx cx ms V (hL4.now.1.below hV.1) hnx E 0 M HE.out HM.out HK.out
      refine wp_enterE 53 #[.agg #[.int .i64 e, .slice px nx cx], .agg #[.int .i64 k, .int .i64 nd, .int .i64 st, .int .i64 ep]] (by first | (go_simp; done) | (go_simp; rfl)) (fun v W => (∃ q cc, v = .tuple #[.agg #[.int .i64 E, .slice q (M : List Mb).length cc], .int .i64 0] ∧ (∀ a, q = some a → 0 < (M : List Mb).length → V.heap.size ≤ a.block) ∧ RdM W q (M : List Mb).length cc M) ∧ Below V.heap.size V W) (hCv.mono fun e' w' hh => by obtain ⟨v, h1, h2, h3⟩ := hh; exact ⟨v, h1, h2, h3⟩) ?_
      rintro v7 V7 ⟨⟨q, cc, rfl, hq, hrq⟩, hb7⟩
      obtain ⟨N, HN⟩ : ∃ N, Hid ((M : List Mb).length = N) := ⟨_, rfl⟩
      rw [HN.out] at hq hrq ⊢
      have hqx : ∀ a, q = some a → 0 < N → a.block ≠ x := fun a ha h0 => Nat.ne_of_gt (Nat.lt_of_lt_of_le (Array.getElem?_eq_some_iff.1 hV.2).1 (hq a ha h0))
      have hql : ∀ a, q = some a → 0 < N → w0.heap.size ≤ a.block := fun a ha h0 => Nat.le_trans (Bl.out hV.1).size (hq a ha h0)
      have HQF : Hid (∀ a, q = some a → 0 < N → B0 ≤ a.block) := fun a ha h0 => Nat.le_trans hBw (Nat.le_trans hE4.size (hql a ha h0))
      refine hK.out (fun W => Br w0 q N cc M W ∧ Bx w0 x W) _ _ ((Br.stays w0 _ _ _ _).and (Bx.stays w0 _)) (fun _ _ h => h.1.1) ⟨⟨Bl.stays w0 V V7 hV.1 hb7, hrq⟩, Bx.stays w0 x V V7 hV hb7⟩ ?_
      clear hK K hCv hb7 hV hrq hq
      (try simp only [Act.put, List.getElem_toArray, List.getElem_cons_zero, List.getElem_cons_succ, List.setIfInBounds_toArray, List.set_cons_zero, List.set_cons_succ])
      refine wpDet_take ?vD6 ((Br.stays w0 _ _ _ _).and (Bx.stays w0 _)) (fun _ h => h.1.1) (i := 6) rfl (by kernel_rfl) (by kernel_rfl) (by kernel_rfl) (by kernel_rfl) (fun _ _ _ h => h) (Gives.value (by rfl) ?yD6) ?rD6
      case yD6 => (intro w' hSw; go_simp; try with_reducible rfl)
      (try simp only [Act.put, List.getElem_toArray, List.getElem_cons_zero, List.getElem_cons_succ, List.setIfInBounds_toArray, List.set_cons_zero, List.set_cons_succ])
      refine wpDet_take ?vD7 ((Br.stays w0 _ _ _ _).and (Bx.stays w0 _)) (fun _ h => h.1.1) (i := 7) rfl (by kernel_rfl) (by kernel_rfl) (by kernel_rfl) (by kernel_rfl) (fun _ _ _ h => h) (Gives.value (by rfl) ?yD7) ?rD7
      case yD7 => (intro w' hSw; go_simp; try with_reducible rfl)
      (try simp only [Act.put, List.getElem_toArray, List.getElem_cons_zero, List.getElem_cons_succ, List.setIfInBounds_toArray, List.set_cons_zero, List.set_cons_succ])
      refine wpDet_take ?vD8 ((Br.stays w0 _ _ _ _).and (Bx.stays w0 _)) (fun _ h => h.1.1) (i := 8) rfl (by kernel_rfl) (by kernel_rfl) (by kernel_rfl) (by kernel_rfl) (fun _ _ _ h => h) (Gives.value (by rfl) ?yD8) ?rD8
      case yD8 => (intro w' hSw; go_simp; try with_reducible rfl)
      (try simp only [Act.put, List.getElem_toArray, List.getElem_cons_zero, List.getElem_cons_succ, List.setIfInBounds_toArray, List.set_cons_zero, List.set_cons_succ])
      refine wpDet_ready (rs := [10]) (by kernel_rfl) (by simp) (AllDet.cons rfl (fun V hV K hK => ?_) AllDet.nil)
      rw [if_pos (by rfl)]
      have y0 := cell_row hV.2.2 (j := 0) (v := .int .i64 0) rfl
      have y1 := cell_row hV.2.2 (j := 1) (v := .slice none 0 0) rfl
      have g0 := frozen_of_row V x 0 _ _ hV.2.2
      have g1 := frozen_of_row V x 1 _ _ hV.2.2
      have hth : V.there x 0 2 := fun j hj => by rw [Nat.zero_add]; match j, hj with | 0, _ => exact ⟨by rw [y0]; rfl, g0⟩ | 1, _ => exact ⟨by rw [y1]; rfl, g1⟩
      refine wp_store_mid 42 _ _ rfl x 0 #[.int .i64 E, .slice q N cc] rfl rfl hth sizeC (one2 _ _ _ _) ?_
      have hz : Bz w0.heap.size w0 x E q N cc M ((V.setCell ⟨x, 0, none⟩ (.int .i64 E)).setCell ⟨x, 1, none⟩ (.slice q N cc)) := ⟨Gr.putB (Bl.out hV.1.1) hxl _ _, hV.1.2.put _ _ (fun a ha h0 => hqx a ha h0), two0 y0, two1 y1, by have := (Bl.out hV.1.1).size; simp; omega⟩
      refine hK.out (Bz w0.heap.size w0 x E q N cc M) _ _ (Bz.stays _ _ _ _ _ _ _ _) (fun _ _ h => h.1) hz ?_
      clear hK K hV hth hz y0 y1 g0 g1
      (try simp only [Act.put, List.getElem_toArray, List.getElem_cons_zero, List.getElem_cons_succ, List.setIfInBounds_toArray, List.set_cons_zero, List.set_cons_succ])
      refine wpDet_take ?vE11 (Bz.stays _ _ _ _ _ _ _ _) (fun _ h => h.1) (i := 11) rfl (by kernel_rfl) (by kernel_rfl) (by kernel_rfl) (by kernel_rfl) (fun _ _ _ h => h) (Gives.value (by rfl) ?yE11) ?rE11
      case yE11 => (intro w' hSw; go_simp; try with_reducible rfl)
      (try simp only [Act.put, List.getElem_toArray, List.getElem_cons_zero, List.getElem_cons_succ, List.setIfInBounds_toArray, List.set_cons_zero, List.set_cons_succ])
      refine wpDet_done (by kernel_rfl) (fun W3 hV => ?_) _
      obtain ⟨hb3, rq, z0, z1, hs3⟩ := hV
      have hL5 := hL4.below hb3
      have hE5 := hE4.trans (Ex2.of_below hb3) (Or.inl rfl)
      have hlg : g < w0.heap.size := hL4.blk.lt
      have hlr : r < w0.heap.size := hL4.lr
      clear hL4 hE4 hC4 q0 q1 q2 q3 hS0 HE HM HK
      obtain ⟨q0, q1, q2, q3⟩ := hL5.blk.four
      dsimp only at q0 q1 q2 q3
      go_wp2_with fail
      go_region
      have hL6 := hL5.below ((Below.refl _ _).drew)
      have hE6 := hE5.trans (Ex2.of_below ((Below.refl _ _).drew)) (Or.inl rfl)
      have rq6 := rq.below ((Below.refl _ _).drew)
      have hq6 : ∀ a, q = some a → 0 < N → a.block ≠ r := fun a ha h0 => by have := hql a ha h0; omega
      replace z0 := cell_below ((Below.refl _ _).drew) z0
      replace z1 := cell_below ((Below.refl _ _).drew) z1
      generalize W3.drew = W6 at *
      obtain ⟨r6, hr6⟩ : ∃ z, z = r := ⟨_, rfl⟩
      rw [← hr6] at hL6 hq6
      have hxg : x ≠ g := by omega
      have fz1 := hL6.blk.free 1
      have fz2 := hL6.blk.free 2
      obtain ⟨p0, p1, p2, p3⟩ := hL6.blk.four
      dsimp only at p0 p1 p2 p3
      have hf : (⟨E, q, N, cc, M⟩ : HE).rd W6 g r6 := ⟨rq6, fun a ha h0 => by have := hql a ha h0; exact ⟨by omega, hq6 a ha h0⟩⟩
      have hL7 := hL6.setNow hf
      have hE7 : Ex2 g r w ((W6.setCell ⟨g, 1, none⟩ (.int .i64 E)).setCell ⟨g, 2, none⟩ (.slice q N cc)) := (hE6.setG 1 _).setG 2 _
      clear hL6 hE6 hf q0 q1 q2 q3
      go_wp2_with fail
      go_ret
      exact ⟨rfl, AftF.mk r6 (Or.inl hr6) ⟨bc, _, H, hL7, rfl, hH, hF.out.now HQF.out⟩, hE7⟩

set_option linter.unusedSimpArgs false in
set_option maxRecDepth 20000 in
set_option maxHeartbeats 4000000 in
theorem ApplyF_new (B0 : Nat) (g r : Nat) (s : PL) (w : World) (hBw : B0 ≤ w.heap.size) (h : LPf B0 w g r s) (i : Int) (p : Option Addr) (n c : Nat) (xs : List Int) (hr : Rd .u8 w p n c xs) (hxb : By xs) (hn : n ≤ 1099511627776) (h0 : 0 < n) (ha : -9223372036854775808 ≤ s.at_) (hi : i = s.at_ + 1 ∧ i ≤ 1099511627776)
    (hms : s.ms.length ≤ 5864062014805) (hHl : s.H.length ≤ 1099511627776) (k nd st ep : Int) (hR : getR xs = some (k, nd, st, ep)) (hep : ep = s.e) (E : Int) (M : List Mb) (hc : chR k nd st s.e s.ms = .ok (E, M)) (hlt : s.e < E) :
    Calls Try.prog 27 #[.pointer (some ⟨g, 0, none⟩), .int .i64 i, .slice p n c] w fun o w' => o = .returned (.int .i64 0) ∧ AftF B0 w w' g r ⟨E, M, i, s.H ++ [(E, M)]⟩ ∧ Ex2 g r w w' := by
  obtain ⟨bc, x, H, hL, hx, hH, hF0⟩ := h
  have hF : Hid (Far B0 x H) := hF0
  clear hF0
  have hm := made_yes g r bc x s.at_ H w hL
  obtain ⟨q0, q1, q2, q3⟩ := hL.blk.four
  have f3 := hL.blk.free 3
  have he0 : Ex g w (w.setCell ⟨g, 3, none⟩ (.int .i64 i)) := (Ex.refl _ _).setCell 3 _
  have hE : Ex2 g r w (w.setCell ⟨g, 3, none⟩ (.int .i64 i)) := (Ex2.refl _ _ _).setG 3 _
  have hL1 := hL.setAt i
  have hG := Get_any p n c xs _ (hr.ex he0 (rd_far hL hr)) hxb hn
  have hc1 : IntKind.i64.wrap (s.at_ + 1) = s.at_ + 1 := by rw [IntKind.wrap_i64]; omega
  have d1 : (i != s.at_ + 1) = false := by simp [hi.1]
  have d2 : decide ((1099511627776 : Int) < i) = false := decide_eq_false (by omega)
  have d3 : ((n : Int) == 0) = false := by rw [beq_eq_false_iff_ne]; omega
  have hsz : (w.setCell ⟨g, 3, none⟩ (.int .i64 i)).heap.size = w.heap.size := by simp [World.setCell]
  rw [hR] at hG
  unfold getV at hG
  obtain ⟨e, px, nx, cx, ms⟩ := x
  obtain ⟨Se, Sm, Sa, SH⟩ := s
  dsimp only [HE.ch] at *
  injection hx with hx1 hx2
  subst hx1
  subst hx2
  clear hi hL ha hr he0 hR
  go_enter Try.func27, Try.ntmps27
  go_wp2_with fail
  refine hm.mono ?_
  rintro o w1 ⟨rfl, hw⟩
  subst w1
  go_wp2_with fail
  refine hG.mono ?_
  rintro o w2 ⟨rfl, hb2⟩
  have hL2 := hL1.below hb2
  have hE2 : Ex2 g r w w2 := hE.trans (Ex2.of_below hb2) (Or.inl rfl)
  clear hG hm q0 q1 q2 q3 f3 hE hL1 hb2 hsz d1 d2 d3 hc1
  · skip
    have hba := below_alloc w2 (.cells #[.int .i64 k, .int .i64 nd, .int .i64 st, .int .i64 ep] 23)
    have hC := At.new 23 w2 #[.int .i64 k, .int .i64 nd, .int .i64 st, .int .i64 ep]
    have hL3 := hL2.below hba
    have hE3 : Ex2 g r w _ := hE2.trans (Ex2.of_below hba) (Or.inl rfl)
    obtain ⟨q0, q1, q2, q3⟩ := hL3.blk.four
    obtain ⟨c0, c1, c2, c3⟩ := hC.four
    have hle : w.heap.size ≤ w2.heap.size := hE2.size
    have hsz3 : (w2.alloc (.cells #[.int .i64 k, .int .i64 nd, .int .i64 st, .int .i64 ep] 23)).heap.size = w2.heap.size + 1 := by simp
    dsimp only at q0 q1 q2 q3
    clear hL2 hE2 hba
    have d1 : (ep != e) = false := by simp [hep]
    have HE : Hid (CRe (chR k nd st e ms) = E) := by unfold Hid; rw [hc]; rfl
    have HM : Hid (CRm (chR k nd st e ms) = M) := by unfold Hid; rw [hc]; rfl
    have HK : Hid (CRk (chR k nd st e ms) = 0) := by unfold Hid; rw [hc]; rfl
    have hltd : decide (e < E) = true := by simpa using hlt
    have hnx : nx ≤ 5864062014805 := by have := hL3.now.1.len; dsimp only at this; omega
    have hHl2 : H.length ≤ 1099511627776 := by rw [← hH, List.length_map] at hHl; exact hHl
    obtain ⟨i0, hi0, hz0, hz1, hz2⟩ := info_parts infoCh
    clear hep hc
    go_wp2_with fail
    go_region
    go_wp2_with fail
    have hL4 := hL3.below ((Below.refl _ _).drew)
    have hE4 := hE3.trans (Ex2.of_below ((Below.refl _ _).drew)) (Or.inl rfl)
    have hC4 := hC.below ((Below.refl _ _).drew)
    have hs4 : (w2.alloc (.cells #[.int .i64 k, .int .i64 nd, .int .i64 st, .int .i64 ep] 23)).drew.heap.size = w2.heap.size + 1 := by simp
    clear hL3 hE3 hC q0 q1 q2 q3 c0 c1 c2 c3 hsz3
    generalize (w2.alloc (.cells #[.int .i64 k, .int .i64 nd, .int .i64 st, .int .i64 ep] 23)).drew = w0 at *
    generalize w2.heap.size = b4 at *
    obtain ⟨q0, q1, q2, q3⟩ := hL4.blk.four
    dsimp only at q0 q1 q2 q3
    have hS0 : Bl w0 w0.drew := (Below.refl _ _).drew
    refine wp_region_det [0, 1, 2, 3, 4, 6, 7, 8, 11] (Bl w0) (Bl w0) (by kernel_rfl) hS0 ?_
    refine wpDet_take ?vA0 (Bl.stays w0) (fun _ h => h) (i := 0) rfl (by kernel_rfl) (by kernel_rfl) (by kernel_rfl) (by kernel_rfl) (fun _ _ _ h => h) (Gives.value (by rfl) ?yA0) ?rA0
    case yA0 => (intro w' hSw; go_simp; try with_reducible rfl)
    (try simp only [Act.put, List.getElem_toArray, List.getElem_cons_zero, List.getElem_cons_succ, List.setIfInBounds_toArray, List.set_cons_zero, List.set_cons_succ])
    refine wpDet_take ?vA1 (Bl.stays w0) (fun _ h => h) (i := 1) rfl (by kernel_rfl) (by kernel_rfl) (by kernel_rfl) (by kernel_rfl) (fun _ _ _ h => h) (Gives.value (by rfl) ?yA1) ?rA1
    case yA1 => (intro w' hSw; go_simp; try with_reducible rfl)
    (try simp only [Act.put, List.getElem_toArray, List.getElem_cons_zero, List.getElem_cons_succ, List.setIfInBounds_toArray, List.set_cons_zero, List.set_cons_succ])
    refine wpDet_take ?vA2 (Bl.stays w0) (fun _ h => h) (i := 2) rfl (by kernel_rfl) (by kernel_rfl) (by kernel_rfl) (by kernel_rfl) (fun _ _ _ h => h) (Gives.value (by rfl) ?yA2) ?rA2
    case yA2 => (intro w' hSw; go_simp; try with_reducible rfl)
    (try simp only [Act.put, List.getElem_toArray, List.getElem_cons_zero, List.getElem_cons_succ, List.setIfInBounds_toArray, List.set_cons_zero, List.set_cons_succ])
    refine wpDet_take _ (Bl.stays w0) (fun _ h => h) (i := 3) rfl (by kernel_rfl) (by kernel_rfl) (by kernel_rfl) (by kernel_rfl) (fun _ _ _ h => h) (Gives.of_yields (yieldsIf_load_mid (by rfl) _ _ rfl _ _ rfl _ _ (fun W h => range2 (cell_below h q1) (cell_below h q2)) Try.underlying42 rfl sizeC)) ?_
    (try simp only [Act.put, List.getElem_toArray, List.getElem_cons_zero, List.getElem_cons_succ, List.setIfInBounds_toArray, List.set_cons_zero, List.set_cons_succ])
    refine wpDet_take _ (Bl.stays w0) (fun _ h => h) (i := 4) rfl (by kernel_rfl) (by kernel_rfl) (by kernel_rfl) (by kernel_rfl) (fun _ _ _ h => h) (Gives.of_yields (yieldsIf_load_mid (by rfl) _ _ rfl _ _ rfl _ _ (fun W h => range4 (hC4.below h)) Try.underlying23 rfl cmd_info)) ?_
    (try simp only [Act.put, List.getElem_toArray, List.getElem_cons_zero, List.getElem_cons_succ, List.setIfInBounds_toArray, List.set_cons_zero, List.set_cons_succ])
    refine wpDet_ready (rs := [5, 9]) (by kernel_rfl) (by simp) (AllDet.cons rfl (fun V hV K hK => ?_) (AllDet.cons rfl (fun V hV K hK => ?_) AllDet.nil))
    · rw [if_pos (by rfl)]
      have hCv := change_is k nd st ep e px nx cx ms V (hL4.now.1.below hV) hnx E 0 M HE.out HM.out HK.out
      refine wp_enterE 53 #[.agg #[.int .i64 e, .slice px nx cx], .agg #[.int .i64 k, .int .i64 nd, .int .i64 st, .int .i64 ep]] (by first | (go_simp; done) | (go_simp; rfl)) (fun v W => (∃ q cc, v = .tuple #[.agg #[.int .i64 E, .slice q (M : List Mb).length cc], .int .i64 0] ∧ (∀ a, q = some a → 0 < (M : List Mb).length → V.heap.size ≤ a.block) ∧ RdM W q (M : List Mb).length cc M) ∧ Below V.heap.size V W) (hCv.mono fun e' w' hh => by obtain ⟨v, h1, h2, h3⟩ := hh; exact ⟨v, h1, h2, h3⟩) ?_
      rintro v7 V7 ⟨⟨q, cc, rfl, hq, hrq⟩, hb7⟩
      obtain ⟨N, HN⟩ : ∃ N, Hid ((M : List Mb).length = N) := ⟨_, rfl⟩
      rw [HN.out] at hq hrq ⊢
      refine hK.out (Br w0 q N cc M) _ _ (Br.stays w0 _ _ _ _) (fun _ _ h => h.1) ⟨Bl.stays w0 V V7 hV hb7, hrq⟩ ?_
      have hql : ∀ a, q = some a → 0 < N → w0.heap.size ≤ a.block := fun a ha h0 => Nat.le_trans (Bl.out hV).size (hq a ha h0)
      have HQF : Hid (∀ a, q = some a → 0 < N → B0 ≤ a.block) := fun a ha h0 => Nat.le_trans hBw (Nat.le_trans hE4.size (hql a ha h0))
      clear hK K hCv hb7 hV hrq hq
      (try simp only [Act.put, List.getElem_toArray, List.getElem_cons_zero, List.getElem_cons_succ, List.setIfInBounds_toArray, List.set_cons_zero, List.set_cons_succ])
      refine wpDet_take ?vB6 (Br.stays w0 _ _ _ _) (fun _ h => h.1) (i := 6) rfl (by kernel_rfl) (by kernel_rfl) (by kernel_rfl) (by kernel_rfl) (fun _ _ _ h => h) (Gives.value (by rfl) ?yB6) ?rB6
      case yB6 => (intro w' hSw; go_simp; try with_reducible rfl)
      (try simp only [Act.put, List.getElem_toArray, List.getElem_cons_zero, List.getElem_cons_succ, List.setIfInBounds_toArray, List.set_cons_zero, List.set_cons_succ])
      refine wpDet_take ?vB7 (Br.stays w0 _ _ _ _) (fun _ h => h.1) (i := 7) rfl (by kernel_rfl) (by kernel_rfl) (by kernel_rfl) (by kernel_rfl) (fun _ _ _ h => h) (Gives.value (by rfl) ?yB7) ?rB7
      case yB7 => (intro w' hSw; go_simp; try with_reducible rfl)
      (try simp only [Act.put, List.getElem_toArray, List.getElem_cons_zero, List.getElem_cons_succ, List.setIfInBounds_toArray, List.set_cons_zero, List.set_cons_succ])
      refine wpDet_take ?vB8 (Br.stays w0 _ _ _ _) (fun _ h => h.1) (i := 8) rfl (by kernel_rfl) (by kernel_rfl) (by kernel_rfl) (by kernel_rfl) (fun _ _ _ h => h) (Gives.value (by rfl) ?yB8) ?rB8
      case yB8 => (intro w' hSw; go_simp; try with_reducible rfl)
      (try simp only [Act.put, List.getElem_toArray, List.getElem_cons_zero, List.getElem_cons_succ, List.setIfInBounds_toArray, List.set_cons_zero, List.set_cons_succ])
      refine wpDet_ready (rs := [9]) (by kernel_rfl) (by simp) (AllDet.cons rfl (fun V hV K hK => ?_) AllDet.nil)
      rw [if_pos (by rfl)]
      refine wp_value (.pointer (some ⟨V.heap.size, 0, none⟩)) (V.alloc (.cells #[.int .i64 0, .slice none 0 0] 42)) (by first | (go_simp; done) | (go_simp; rfl)) ?_
      have hqx : ∀ a, q = some a → 0 < N → a.block ≠ V.heap.size := fun a ha h0 => Nat.ne_of_lt (rd_lt hV.2 ha h0)
      have hxl : w0.heap.size ≤ V.heap.size := (Bl.out hV.1).size
      refine hK.out (fun W => Br w0 q N cc M W ∧ Bx w0 V.heap.size W) _ _ ((Br.stays w0 _ _ _ _).and (Bx.stays w0 _)) (fun _ _ h => h.1.1) ⟨Br.stays w0 _ _ _ _ V _ hV ((Below.refl _ _).alloc (Nat.le_refl _) _), Bl.stays w0 V _ hV.1 ((Below.refl _ _).alloc (Nat.le_refl _) _), heap_alloc_new _ _⟩ ?_
      clear hK K hV
      generalize V.heap.size = x at *
      (try simp only [Act.put, List.getElem_toArray, List.getElem_cons_zero, List.getElem_cons_succ, List.setIfInBounds_toArray, List.set_cons_zero, List.set_cons_succ])
      refine wpDet_ready (rs := [10]) (by kernel_rfl) (by simp) (AllDet.cons rfl (fun V hV K hK => ?_) AllDet.nil)
      rw [if_pos (by rfl)]
      have y0 := cell_row hV.2.2 (j := 0) (v := .int .i64 0) rfl
      have y1 := cell_row hV.2.2 (j := 1) (v := .slice none 0 0) rfl
      have g0 := frozen_of_row V x 0 _ _ hV.2.2
      have g1 := frozen_of_row V x 1 _ _ hV.2.2
      have hth : V.there x 0 2 := fun j hj => by rw [Nat.zero_add]; match j, hj with | 0, _ => exact ⟨by rw [y0]; rfl, g0⟩ | 1, _ => exact ⟨by rw [y1]; rfl, g1⟩
      refine wp_store_mid 42 _ _ rfl x 0 #[.int .i64 E, .slice q N cc] rfl rfl hth sizeC (one2 _ _ _ _) ?_
      have hz : Bz w0.heap.size w0 x E q N cc M ((V.setCell ⟨x, 0, none⟩ (.int .i64 E)).setCell ⟨x, 1, none⟩ (.slice q N cc)) := ⟨Gr.putB (Bl.out hV.1.1) hxl _ _, hV.1.2.put _ _ (fun a ha h0 => hqx a ha h0), two0 y0, two1 y1, by have := (Bl.out hV.1.1).size; simp; omega⟩
      refine hK.out (Bz w0.heap.size w0 x E q N cc M) _ _ (Bz.stays _ _ _ _ _ _ _ _) (fun _ _ h => h.1) hz ?_
      clear hK K hV hth hz y0 y1 g0 g1
      (try simp only [Act.put, List.getElem_toArray, List.getElem_cons_zero, List.getElem_cons_succ, List.setIfInBounds_toArray, List.set_cons_zero, List.set_cons_succ])
      refine wpDet_take ?vC11 (Bz.stays _ _ _ _ _ _ _ _) (fun _ h => h.1) (i := 11) rfl (by kernel_rfl) (by kernel_rfl) (by kernel_rfl) (by kernel_rfl) (fun _ _ _ h => h) (Gives.value (by rfl) ?yC11) ?rC11
      case yC11 => (intro w' hSw; go_simp; try with_reducible rfl)
      (try simp only [Act.put, List.getElem_toArray, List.getElem_cons_zero, List.getElem_cons_succ, List.setIfInBounds_toArray, List.set_cons_zero, List.set_cons_succ])
      refine wpDet_done (by kernel_rfl) (fun W3 hV => ?_) _
      obtain ⟨hb3, rq, z0, z1, hs3⟩ := hV
      have hL5 := hL4.below hb3
      have hE5 := hE4.trans (Ex2.of_below hb3) (Or.inl rfl)
      have hlg : g < w0.heap.size := hL4.blk.lt
      have hlr : r < w0.heap.size := hL4.lr
      clear hL4 hE4 hC4 q0 q1 q2 q3 hS0 HE HM HK
      obtain ⟨q0, q1, q2, q3⟩ := hL5.blk.four
      dsimp only at q0 q1 q2 q3
      go_wp2_with fail
      go_region
      go_wp2_with fail
      have hL6 := hL5.below ((Below.refl _ _).drew)
      have hE6 := hE5.trans (Ex2.of_below ((Below.refl _ _).drew)) (Or.inl rfl)
      have rq6 := rq.below ((Below.refl _ _).drew)
      replace z0 := cell_below ((Below.refl _ _).drew) z0
      replace z1 := cell_below ((Below.refl _ _).drew) z1
      have hxl6 : w0.heap.size ≤ W3.drew.heap.size := hb3.size
      clear q0 q1 q2 q3 hL5 hE5 rq hb3 hs3
      generalize W3.drew = w5 at *
      obtain ⟨q0, q1, q2, q3⟩ := hL6.blk.four
      dsimp only at q0 q1 q2 q3
      have hS5 : Bl w5 w5.drew := (Below.refl _ _).drew
      have hC0 : ∀ W, Bl w5 W → C0 g r H.length bc x E q N cc W := fun W h => ⟨cell_below h q0, cell_below h z0, cell_below h z1⟩
      refine wp_region_det [0, 1, 2, 3, 4, 5, 6] (C0 g r H.length bc x E q N cc) (Bl w5) (by kernel_rfl) hS5 ?_
      refine wpDet_take ?vAn0 (Bl.stays w5) (fun W h => hC0 W h) (i := 0) rfl (by kernel_rfl) (by kernel_rfl) (by kernel_rfl) (by kernel_rfl) (fun _ _ _ h => h) (Gives.value (by rfl) ?yAn0) ?rAn0
      case yAn0 => (intro w' hSw; go_simp; try with_reducible rfl)
      (try simp only [Act.put, List.getElem_toArray, List.getElem_cons_zero, List.getElem_cons_succ, List.setIfInBounds_toArray, List.set_cons_zero, List.set_cons_succ])
      refine wpDet_take ?vAn1 (Bl.stays w5) (fun W h => hC0 W h) (i := 1) rfl (by kernel_rfl) (by kernel_rfl) (by kernel_rfl) (by kernel_rfl) (fun _ _ _ h => h) (Gives.value (by rfl) ?yAn1) ?rAn1
      case yAn1 => (intro w' hSw; go_simp; try with_reducible rfl)
      (try simp only [Act.put, List.getElem_toArray, List.getElem_cons_zero, List.getElem_cons_succ, List.setIfInBounds_toArray, List.set_cons_zero, List.set_cons_succ])
      refine wpDet_take ?vAn2 (Bl.stays w5) (fun W h => hC0 W h) (i := 2) rfl (by kernel_rfl) (by kernel_rfl) (by kernel_rfl) (by kernel_rfl) (fun _ _ _ h => h) (Gives.value (by rfl) ?yAn2) ?rAn2
      case yAn2 => (intro w' hSw; go_simp; try with_reducible rfl)
      (try simp only [Act.put, List.getElem_toArray, List.getElem_cons_zero, List.getElem_cons_succ, List.setIfInBounds_toArray, List.set_cons_zero, List.set_cons_succ])
      refine wpDet_take ?vAn3 (Bl.stays w5) (fun W h => hC0 W h) (i := 3) rfl (by kernel_rfl) (by kernel_rfl) (by kernel_rfl) (by kernel_rfl) (fun _ _ _ h => h) (Gives.value (by rfl) ?yAn3) ?rAn3
      case yAn3 => (intro w' hSw; go_simp; try with_reducible rfl)
      (try simp only [Act.put, List.getElem_toArray, List.getElem_cons_zero, List.getElem_cons_succ, List.setIfInBounds_toArray, List.set_cons_zero, List.set_cons_succ])
      refine wpDet_take ?vAn4 (Bl.stays w5) (fun W h => hC0 W h) (i := 4) rfl (by kernel_rfl) (by kernel_rfl) (by kernel_rfl) (by kernel_rfl) (fun _ _ _ h => h) (Gives.value (by rfl) ?yAn4) ?rAn4
      case yAn4 => (intro w' hSw; go_simp; try with_reducible rfl)
      (try simp only [Act.put, List.getElem_toArray, List.getElem_cons_zero, List.getElem_cons_succ, List.setIfInBounds_toArray, List.set_cons_zero, List.set_cons_succ])
      refine wpDet_take ?vAn5 (Bl.stays w5) (fun W h => hC0 W h) (i := 5) rfl (by kernel_rfl) (by kernel_rfl) (by kernel_rfl) (by kernel_rfl) (fun _ _ _ h => h) (Gives.value (by rfl) ?yAn5) ?rAn5
      case yAn5 => (intro w' hSw; have h5 := hSw.1; go_simp; try with_reducible rfl)
      (try simp only [Act.put, List.getElem_toArray, List.getElem_cons_zero, List.getElem_cons_succ, List.setIfInBounds_toArray, List.set_cons_zero, List.set_cons_succ])
      refine wpDet_take _ (Bl.stays w5) (fun W h => hC0 W h) (i := 6) rfl (by kernel_rfl) (by kernel_rfl) (by kernel_rfl) (by kernel_rfl) (fun _ _ _ h => h) (Gives.of_yields (yieldsIf_load_mid (by rfl) _ _ rfl _ _ rfl _ _ (fun W h => range2 h.2.1 h.2.2) Try.underlying42 rfl sizeC)) ?_
      (try simp only [Act.put, List.getElem_toArray, List.getElem_cons_zero, List.getElem_cons_succ, List.setIfInBounds_toArray, List.set_cons_zero, List.set_cons_succ])
      refine wpDet_ready (rs := [7]) (by kernel_rfl) (by simp) (AllDet.cons rfl (fun V hV K hK => ?_) AllDet.nil)
      rw [if_pos (by rfl)]
      refine wp_value (.slice (some ⟨V.heap.size, 0, none⟩) 1 1) (V.alloc (.cells #[.int .i64 E, .slice q N cc] 42)) (by first | (go_simp; done) | (go_simp; rfl)) ?_
      refine hK.out (fun W => Bl w5 W ∧ At 42 W V.heap.size #[.int .i64 E, .slice q N cc]) _ _ ((Bl.stays w5).and (fun _ _ h hb => h.below hb)) (fun _ W h => hC0 W h.1) ⟨Bl.stays w5 V _ hV (below_alloc _ _), At.new _ _ _⟩ ?_
      clear hK K hV
      generalize V.heap.size = y at *
      (try simp only [Act.put, List.getElem_toArray, List.getElem_cons_zero, List.getElem_cons_succ, List.setIfInBounds_toArray, List.set_cons_zero, List.set_cons_succ])
      refine wpDet_ready (rs := [8]) (by kernel_rfl) (by simp) (AllDet.cons rfl (fun V hV K hK => ?_) AllDet.nil)
      rw [if_pos (by rfl)]
      obtain ⟨a0, a1⟩ := hV.2.two
      have hLV := hL6.below hV.1
      have hxV : x < V.heap.size := World.block_lt_of_cell? _ _ (hC0 V hV.1).2.1
      have hEV : Ex2 g r w V := hE6.trans (Ex2.of_below hV.1) (Or.inl rfl)
      have hrV := rq6.below hV.1
      have hVl : w0.heap.size ≤ V.heap.size := Nat.le_trans hxl6 (Bl.out hV.1).size
      obtain ⟨r6, bc6, V6, hrun, hown, hgw⟩ := run_appC V 78 i0 (.agg #[.int .i64 0, .slice none 0 0]) hi0 hz0 hz1 hz2 rfl r bc H hLV.row y 1 ⟨E, q, N, cc, M⟩ a0 a1 hHl2
      have hcV := hC0 V hV.1
      refine wp_app _ _ _ rfl _ _ rfl rfl _ V6 hrun ?_
      have hxr : x ≠ r := by omega
      have hxg : x ≠ g := by omega
      have hgr : g ≠ r := fun h => hLV.ne h.symm
      have hne6 : ∀ b j v, b ≠ r → V.cell? ⟨b, j, none⟩ = some v → V6.cell? ⟨b, j, none⟩ = some v := fun b j v hb hc => (World.cell?_of_block ((hgw.ex2 (g := V.heap.size)).block b (World.block_lt_of_cell? _ _ hc) (Nat.ne_of_lt (World.block_lt_of_cell? _ _ hc)) hb)).trans hc
      have hC6 : C0 g r H.length bc x E q N cc V6 := ⟨hne6 _ _ _ hgr hcV.1, hne6 _ _ _ hxr hcV.2.1, hne6 _ _ _ hxr hcV.2.2⟩
      refine hK.out (Bl V6) _ _ (Bl.stays V6) (fun _ W h => ⟨cell_below h hC6.1, cell_below h hC6.2.1, cell_below h hC6.2.2⟩) (Below.refl _ _) ?_
      clear hK K hV hrun a0 a1 hC0
      (try simp only [Act.put, List.getElem_toArray, List.getElem_cons_zero, List.getElem_cons_succ, List.setIfInBounds_toArray, List.set_cons_zero, List.set_cons_succ])
      generalize hVV : V = Va at *
      refine wpDet_ready (rs := [9]) (by kernel_rfl) (by simp) (AllDet.cons rfl (fun V hV K hK => ?_) AllDet.nil)
      rw [if_pos (by rfl)]
      refine wp_value (.pointer (some ⟨g, 0, none⟩)) V (by first | (go_simp; done) | (go_simp; rfl)) ?_
      refine hK.out (Bl V6) _ _ (Bl.stays V6) (fun _ => (fun W h => ⟨cell_below h hC6.1, cell_below h hC6.2.1, cell_below h hC6.2.2⟩)) hV ?_
      clear hK K hV
      (try simp only [Act.put, List.getElem_toArray, List.getElem_cons_zero, List.getElem_cons_succ, List.setIfInBounds_toArray, List.set_cons_zero, List.set_cons_succ])
      refine wpDet_ready (rs := [10]) (by kernel_rfl) (by simp) (AllDet.cons rfl (fun V hV K hK => ?_) AllDet.nil)
      rw [if_pos (by rfl)]
      refine wp_value (.pointer (some ⟨g, 0, none⟩)) V (by first | (go_simp; done) | (go_simp; rfl)) ?_
      refine hK.out (Bl V6) _ _ (Bl.stays V6) (fun _ => (fun W h => ⟨cell_below h hC6.1, cell_below h hC6.2.1, cell_below h hC6.2.2⟩)) hV ?_
      clear hK K hV
      (try simp only [Act.put, List.getElem_toArray, List.getElem_cons_zero, List.getElem_cons_succ, List.setIfInBounds_toArray, List.set_cons_zero, List.set_cons_succ])
      refine wpDet_ready (rs := [11]) (by kernel_rfl) (by simp) (AllDet.cons rfl (fun V hV K hK => ?_) AllDet.nil)
      rw [if_pos (by rfl)]
      refine wp_value (.pointer (some ⟨g, 0, none⟩)) V (by first | (go_simp; done) | (go_simp; rfl)) ?_
      refine hK.out (Bl V6) _ _ (Bl.stays V6) (fun _ => (fun W h => ⟨cell_below h hC6.1, cell_below h hC6.2.1, cell_below h hC6.2.2⟩)) hV ?_
      clear hK K hV
      (try simp only [Act.put, List.getElem_toArray, List.getElem_cons_zero, List.getElem_cons_succ, List.setIfInBounds_toArray, List.set_cons_zero, List.set_cons_succ])
      refine wpDet_ready (rs := [12]) (by kernel_rfl) (by simp) (AllDet.cons rfl (fun V hV K hK => ?_) AllDet.nil)
      rw [if_pos (by rfl)]
      have hg2 := hgw.below hV
      have hLn := hLV.grew hg2 (owns_below hown hV) (⟨hrV, fun a ha h0 => by have := hql a ha h0; exact ⟨by show a.block ≠ g; omega, by show a.block ≠ r; omega⟩⟩ : (⟨E, q, N, cc, M⟩ : HE).rd Va g r)
      have u0 := cell_below hV hC6.1
      have hfz : V.frozen? ⟨g, 0, none⟩ = false := by have := hLn.blk.free 0; simpa [World.frozen?_setCell] using this
      refine wp_store_slice _ _ _ rfl g 0 (some ⟨r6, 0, none⟩) (H.length + 1) bc6 _ rfl rfl sizeSlC u0 hfz ?_
      have hz : S4 Va g r r6 bc6 ⟨e, px, nx, cx, ms⟩ i (H ++ [⟨E, q, N, cc, M⟩]) x E q N cc M (V.setCell ⟨g, 0, none⟩ (.slice (some ⟨r6, 0, none⟩) (H.length + 1) bc6)) := ⟨hLn, (hg2.ex2 (g := g)).setG 0 _, by rw [World.cell?_setCell_other (h := fun h => hxg (congrArg Addr.block h).symm)]; exact cell_below hV hC6.2.1, by rw [World.cell?_setCell_other (h := fun h => hxg (congrArg Addr.block h).symm)]; exact cell_below hV hC6.2.2, (hrV.ex2 (hg2.ex2 (g := g)) (fun a ha h0 => by have := hql a ha h0; exact ⟨by omega, by omega⟩)).set1 _ (fun a ha h0 => by have := hql a ha h0; omega)⟩
      refine hK.out (S4 Va g r r6 bc6 ⟨e, px, nx, cx, ms⟩ i (H ++ [⟨E, q, N, cc, M⟩]) x E q N cc M) _ _ (S4.stays _ _ _ _ _ _ _ _ _ _ _ _ _ _) (no_lean (by kernel_rfl)) hz ?_
      have ho6 := hg2.or
      clear hK K hV hz hLn u0 hfz hg2
      (try simp only [Act.put, List.getElem_toArray, List.getElem_cons_zero, List.getElem_cons_succ, List.setIfInBounds_toArray, List.set_cons_zero, List.set_cons_succ])
      refine wpDet_done (by kernel_rfl) (fun W6 hV => ?_) _
      obtain ⟨hL6n, hEn, z0n, z1n, rq6n⟩ := hV
      have hle6 : w.heap.size ≤ Va.heap.size := hEV.size
      have hq6 : ∀ a, q = some a → 0 < N → a.block ≠ r6 := fun a ha h0 => by have h1 := hql a ha h0; have h2 := rd_lt hrV ha h0; exact ho6.elim (fun h => by omega) (fun h => by omega)
      have hE8 := hEV.trans hEn (Or.inl rfl)
      clear hL6 hE6 rq6 z0 z1 hgw hown hcV hC6 hLV hEn q0 q1 q2 q3
      obtain ⟨q0, q1, q2, q3⟩ := hL6n.blk.four
      have fz1 := hL6n.blk.free 1
      have fz2 := hL6n.blk.free 2
      obtain ⟨p0, p1, p2, p3⟩ := hL6n.blk.four
      dsimp only at p0 p1 p2 p3
      have hf : (⟨E, q, N, cc, M⟩ : HE).rd W6 g r6 := ⟨rq6n, fun a ha h0 => by have := hql a ha h0; exact ⟨by omega, hq6 a ha h0⟩⟩
      have hL7 := hL6n.setNow hf
      have hE7 : Ex2 g r w ((W6.setCell ⟨g, 1, none⟩ (.int .i64 E)).setCell ⟨g, 2, none⟩ (.slice q N cc)) := (hE8.setG 1 _).setG 2 _
      clear hL6n hE8 hf q0 q1 q2 q3
      go_wp2_with fail
      go_ret
      exact ⟨rfl, AftF.mk r6 (ho6.imp id (fun h => Nat.le_trans hle6 h)) ⟨bc6, _, _, hL7, rfl, by rw [List.map_append, hH]; rfl, hF.out.snoc HQF.out⟩, hE7⟩
    · rw [if_pos (by rfl)]
      refine wp_value (.pointer (some ⟨V.heap.size, 0, none⟩)) (V.alloc (.cells #[.int .i64 0, .slice none 0 0] 42)) (by first | (go_simp; done) | (go_simp; rfl)) ?_
      have hxl : w0.heap.size ≤ V.heap.size := (Bl.out hV).size
      refine hK.out (Bx w0 V.heap.size) _ _ (Bx.stays w0 _) (fun _ _ h => h.1) ⟨Bl.stays w0 V _ hV ((Below.refl _ _).alloc (Nat.le_refl _) _), heap_alloc_new _ _⟩ ?_
      clear hK K hV
      generalize V.heap.size = x at *
      (try simp only [Act.put, List.getElem_toArray, List.getElem_cons_zero, List.getElem_cons_succ, List.setIfInBounds_toArray, List.set_cons_zero, List.set_cons_succ])
      refine wpDet_ready (rs := [5]) (by kernel_rfl) (by simp) (AllDet.cons rfl (fun V hV K hK => ?_) AllDet.nil)
      rw [if_pos (by rfl)]
      have hCv := change_is k nd st ep e px nx cx ms V (hL4.now.1.below hV.1) hnx E 0 M HE.out HM.out HK.out
      refine wp_enterE 53 #[.agg #[.int .i64 e, .slice px nx cx], .agg #[.int .i64 k, .int .i64 nd, .int .i64 st, .int .i64 ep]] (by first | (go_simp; done) | (go_simp; rfl)) (fun v W => (∃ q cc, v = .tuple #[.agg #[.int .i64 E, .slice q (M : List Mb).length cc], .int .i64 0] ∧ (∀ a, q = some a → 0 < (M : List Mb).length → V.heap.size ≤ a.block) ∧ RdM W q (M : List Mb).length cc M) ∧ Below V.heap.size V W) (hCv.mono fun e' w' hh => by obtain ⟨v, h1, h2, h3⟩ := hh; exact ⟨v, h1, h2, h3⟩) ?_
      rintro v7 V7 ⟨⟨q, cc, rfl, hq, hrq⟩, hb7⟩
      obtain ⟨N, HN⟩ : ∃ N, Hid ((M : List Mb).length = N) := ⟨_, rfl⟩
      rw [HN.out] at hq hrq ⊢
      have hqx : ∀ a, q = some a → 0 < N → a.block ≠ x := fun a ha h0 => Nat.ne_of_gt (Nat.lt_of_lt_of_le (Array.getElem?_eq_some_iff.1 hV.2).1 (hq a ha h0))
      have hql : ∀ a, q = some a → 0 < N → w0.heap.size ≤ a.block := fun a ha h0 => Nat.le_trans (Bl.out hV.1).size (hq a ha h0)
      have HQF : Hid (∀ a, q = some a → 0 < N → B0 ≤ a.block) := fun a ha h0 => Nat.le_trans hBw (Nat.le_trans hE4.size (hql a ha h0))
      refine hK.out (fun W => Br w0 q N cc M W ∧ Bx w0 x W) _ _ ((Br.stays w0 _ _ _ _).and (Bx.stays w0 _)) (fun _ _ h => h.1.1) ⟨⟨Bl.stays w0 V V7 hV.1 hb7, hrq⟩, Bx.stays w0 x V V7 hV hb7⟩ ?_
      clear hK K hCv hb7 hV hrq hq
      (try simp only [Act.put, List.getElem_toArray, List.getElem_cons_zero, List.getElem_cons_succ, List.setIfInBounds_toArray, List.set_cons_zero, List.set_cons_succ])
      refine wpDet_take ?vD6 ((Br.stays w0 _ _ _ _).and (Bx.stays w0 _)) (fun _ h => h.1.1) (i := 6) rfl (by kernel_rfl) (by kernel_rfl) (by kernel_rfl) (by kernel_rfl) (fun _ _ _ h => h) (Gives.value (by rfl) ?yD6) ?rD6
      case yD6 => (intro w' hSw; go_simp; try with_reducible rfl)
      (try simp only [Act.put, List.getElem_toArray, List.getElem_cons_zero, List.getElem_cons_succ, List.setIfInBounds_toArray, List.set_cons_zero, List.set_cons_succ])
      refine wpDet_take ?vD7 ((Br.stays w0 _ _ _ _).and (Bx.stays w0 _)) (fun _ h => h.1.1) (i := 7) rfl (by kernel_rfl) (by kernel_rfl) (by kernel_rfl) (by kernel_rfl) (fun _ _ _ h => h) (Gives.value (by rfl) ?yD7) ?rD7
      case yD7 => (intro w' hSw; go_simp; try with_reducible rfl)
      (try simp only [Act.put, List.getElem_toArray, List.getElem_cons_zero, List.getElem_cons_succ, List.setIfInBounds_toArray, List.set_cons_zero, List.set_cons_succ])
      refine wpDet_take ?vD8 ((Br.stays w0 _ _ _ _).and (Bx.stays w0 _)) (fun _ h => h.1.1) (i := 8) rfl (by kernel_rfl) (by kernel_rfl) (by kernel_rfl) (by kernel_rfl) (fun _ _ _ h => h) (Gives.value (by rfl) ?yD8) ?rD8
      case yD8 => (intro w' hSw; go_simp; try with_reducible rfl)
      (try simp only [Act.put, List.getElem_toArray, List.getElem_cons_zero, List.getElem_cons_succ, List.setIfInBounds_toArray, List.set_cons_zero, List.set_cons_succ])
      refine wpDet_ready (rs := [10]) (by kernel_rfl) (by simp) (AllDet.cons rfl (fun V hV K hK => ?_) AllDet.nil)
      rw [if_pos (by rfl)]
      have y0 := cell_row hV.2.2 (j := 0) (v := .int .i64 0) rfl
      have y1 := cell_row hV.2.2 (j := 1) (v := .slice none 0 0) rfl
      have g0 := frozen_of_row V x 0 _ _ hV.2.2
      have g1 := frozen_of_row V x 1 _ _ hV.2.2
      have hth : V.there x 0 2 := fun j hj => by rw [Nat.zero_add]; match j, hj with | 0, _ => exact ⟨by rw [y0]; rfl, g0⟩ | 1, _ => exact ⟨by rw [y1]; rfl, g1⟩
      refine wp_store_mid 42 _ _ rfl x 0 #[.int .i64 E, .slice q N cc] rfl rfl hth sizeC (one2 _ _ _ _) ?_
      have hz : Bz w0.heap.size w0 x E q N cc M ((V.setCell ⟨x, 0, none⟩ (.int .i64 E)).setCell ⟨x, 1, none⟩ (.slice q N cc)) := ⟨Gr.putB (Bl.out hV.1.1) hxl _ _, hV.1.2.put _ _ (fun a ha h0 => hqx a ha h0), two0 y0, two1 y1, by have := (Bl.out hV.1.1).size; simp; omega⟩
      refine hK.out (Bz w0.heap.size w0 x E q N cc M) _ _ (Bz.stays _ _ _ _ _ _ _ _) (fun _ _ h => h.1) hz ?_
      clear hK K hV hth hz y0 y1 g0 g1
      (try simp only [Act.put, List.getElem_toArray, List.getElem_cons_zero, List.getElem_cons_succ, List.setIfInBounds_toArray, List.set_cons_zero, List.set_cons_succ])
      refine wpDet_take ?vE11 (Bz.stays _ _ _ _ _ _ _ _) (fun _ h => h.1) (i := 11) rfl (by kernel_rfl) (by kernel_rfl) (by kernel_rfl) (by kernel_rfl) (fun _ _ _ h => h) (Gives.value (by rfl) ?yE11) ?rE11
      case yE11 => (intro w' hSw; go_simp; try with_reducible rfl)
      (try simp only [Act.put, List.getElem_toArray, List.getElem_cons_zero, List.getElem_cons_succ, List.setIfInBounds_toArray, List.set_cons_zero, List.set_cons_succ])
      refine wpDet_done (by kernel_rfl) (fun W3 hV => ?_) _
      obtain ⟨hb3, rq, z0, z1, hs3⟩ := hV
      have hL5 := hL4.below hb3
      have hE5 := hE4.trans (Ex2.of_below hb3) (Or.inl rfl)
      have hlg : g < w0.heap.size := hL4.blk.lt
      have hlr : r < w0.heap.size := hL4.lr
      clear hL4 hE4 hC4 q0 q1 q2 q3 hS0 HE HM HK
      obtain ⟨q0, q1, q2, q3⟩ := hL5.blk.four
      dsimp only at q0 q1 q2 q3
      go_wp2_with fail
      go_region
      go_wp2_with fail
      have hL6 := hL5.below ((Below.refl _ _).drew)
      have hE6 := hE5.trans (Ex2.of_below ((Below.refl _ _).drew)) (Or.inl rfl)
      have rq6 := rq.below ((Below.refl _ _).drew)
      replace z0 := cell_below ((Below.refl _ _).drew) z0
      replace z1 := cell_below ((Below.refl _ _).drew) z1
      have hxl6 : w0.heap.size ≤ W3.drew.heap.size := hb3.size
      clear q0 q1 q2 q3 hL5 hE5 rq hb3 hs3
      generalize W3.drew = w5 at *
      obtain ⟨q0, q1, q2, q3⟩ := hL6.blk.four
      dsimp only at q0 q1 q2 q3
      have hS5 : Bl w5 w5.drew := (Below.refl _ _).drew
      have hC0 : ∀ W, Bl w5 W → C0 g r H.length bc x E q N cc W := fun W h => ⟨cell_below h q0, cell_below h z0, cell_below h z1⟩
      refine wp_region_det [0, 1, 2, 3, 4, 5, 6] (C0 g r H.length bc x E q N cc) (Bl w5) (by kernel_rfl) hS5 ?_
      refine wpDet_take ?vBn0 (Bl.stays w5) (fun W h => hC0 W h) (i := 0) rfl (by kernel_rfl) (by kernel_rfl) (by kernel_rfl) (by kernel_rfl) (fun _ _ _ h => h) (Gives.value (by rfl) ?yBn0) ?rBn0
      case yBn0 => (intro w' hSw; go_simp; try with_reducible rfl)
      (try simp only [Act.put, List.getElem_toArray, List.getElem_cons_zero, List.getElem_cons_succ, List.setIfInBounds_toArray, List.set_cons_zero, List.set_cons_succ])
      refine wpDet_take ?vBn1 (Bl.stays w5) (fun W h => hC0 W h) (i := 1) rfl (by kernel_rfl) (by kernel_rfl) (by kernel_rfl) (by kernel_rfl) (fun _ _ _ h => h) (Gives.value (by rfl) ?yBn1) ?rBn1
      case yBn1 => (intro w' hSw; go_simp; try with_reducible rfl)
      (try simp only [Act.put, List.getElem_toArray, List.getElem_cons_zero, List.getElem_cons_succ, List.setIfInBounds_toArray, List.set_cons_zero, List.set_cons_succ])
      refine wpDet_take ?vBn2 (Bl.stays w5) (fun W h => hC0 W h) (i := 2) rfl (by kernel_rfl) (by kernel_rfl) (by kernel_rfl) (by kernel_rfl) (fun _ _ _ h => h) (Gives.value (by rfl) ?yBn2) ?rBn2
      case yBn2 => (intro w' hSw; go_simp; try with_reducible rfl)
      (try simp only [Act.put, List.getElem_toArray, List.getElem_cons_zero, List.getElem_cons_succ, List.setIfInBounds_toArray, List.set_cons_zero, List.set_cons_succ])
      refine wpDet_take ?vBn3 (Bl.stays w5) (fun W h => hC0 W h) (i := 3) rfl (by kernel_rfl) (by kernel_rfl) (by kernel_rfl) (by kernel_rfl) (fun _ _ _ h => h) (Gives.value (by rfl) ?yBn3) ?rBn3
      case yBn3 => (intro w' hSw; go_simp; try with_reducible rfl)
      (try simp only [Act.put, List.getElem_toArray, List.getElem_cons_zero, List.getElem_cons_succ, List.setIfInBounds_toArray, List.set_cons_zero, List.set_cons_succ])
      refine wpDet_take ?vBn4 (Bl.stays w5) (fun W h => hC0 W h) (i := 4) rfl (by kernel_rfl) (by kernel_rfl) (by kernel_rfl) (by kernel_rfl) (fun _ _ _ h => h) (Gives.value (by rfl) ?yBn4) ?rBn4
      case yBn4 => (intro w' hSw; go_simp; try with_reducible rfl)
      (try simp only [Act.put, List.getElem_toArray, List.getElem_cons_zero, List.getElem_cons_succ, List.setIfInBounds_toArray, List.set_cons_zero, List.set_cons_succ])
      refine wpDet_take ?vBn5 (Bl.stays w5) (fun W h => hC0 W h) (i := 5) rfl (by kernel_rfl) (by kernel_rfl) (by kernel_rfl) (by kernel_rfl) (fun _ _ _ h => h) (Gives.value (by rfl) ?yBn5) ?rBn5
      case yBn5 => (intro w' hSw; have h5 := hSw.1; go_simp; try with_reducible rfl)
      (try simp only [Act.put, List.getElem_toArray, List.getElem_cons_zero, List.getElem_cons_succ, List.setIfInBounds_toArray, List.set_cons_zero, List.set_cons_succ])
      refine wpDet_take _ (Bl.stays w5) (fun W h => hC0 W h) (i := 6) rfl (by kernel_rfl) (by kernel_rfl) (by kernel_rfl) (by kernel_rfl) (fun _ _ _ h => h) (Gives.of_yields (yieldsIf_load_mid (by rfl) _ _ rfl _ _ rfl _ _ (fun W h => range2 h.2.1 h.2.2) Try.underlying42 rfl sizeC)) ?_
      (try simp only [Act.put, List.getElem_toArray, List.getElem_cons_zero, List.getElem_cons_succ, List.setIfInBounds_toArray, List.set_cons_zero, List.set_cons_succ])
      refine wpDet_ready (rs := [7]) (by kernel_rfl) (by simp) (AllDet.cons rfl (fun V hV K hK => ?_) AllDet.nil)
      rw [if_pos (by rfl)]
      refine wp_value (.slice (some ⟨V.heap.size, 0, none⟩) 1 1) (V.alloc (.cells #[.int .i64 E, .slice q N cc] 42)) (by first | (go_simp; done) | (go_simp; rfl)) ?_
      refine hK.out (fun W => Bl w5 W ∧ At 42 W V.heap.size #[.int .i64 E, .slice q N cc]) _ _ ((Bl.stays w5).and (fun _ _ h hb => h.below hb)) (fun _ W h => hC0 W h.1) ⟨Bl.stays w5 V _ hV (below_alloc _ _), At.new _ _ _⟩ ?_
      clear hK K hV
      generalize V.heap.size = y at *
      (try simp only [Act.put, List.getElem_toArray, List.getElem_cons_zero, List.getElem_cons_succ, List.setIfInBounds_toArray, List.set_cons_zero, List.set_cons_succ])
      refine wpDet_ready (rs := [8]) (by kernel_rfl) (by simp) (AllDet.cons rfl (fun V hV K hK => ?_) AllDet.nil)
      rw [if_pos (by rfl)]
      obtain ⟨a0, a1⟩ := hV.2.two
      have hLV := hL6.below hV.1
      have hxV : x < V.heap.size := World.block_lt_of_cell? _ _ (hC0 V hV.1).2.1
      have hEV : Ex2 g r w V := hE6.trans (Ex2.of_below hV.1) (Or.inl rfl)
      have hrV := rq6.below hV.1
      have hVl : w0.heap.size ≤ V.heap.size := Nat.le_trans hxl6 (Bl.out hV.1).size
      obtain ⟨r6, bc6, V6, hrun, hown, hgw⟩ := run_appC V 78 i0 (.agg #[.int .i64 0, .slice none 0 0]) hi0 hz0 hz1 hz2 rfl r bc H hLV.row y 1 ⟨E, q, N, cc, M⟩ a0 a1 hHl2
      have hcV := hC0 V hV.1
      refine wp_app _ _ _ rfl _ _ rfl rfl _ V6 hrun ?_
      have hxr : x ≠ r := by omega
      have hxg : x ≠ g := by omega
      have hgr : g ≠ r := fun h => hLV.ne h.symm
      have hne6 : ∀ b j v, b ≠ r → V.cell? ⟨b, j, none⟩ = some v → V6.cell? ⟨b, j, none⟩ = some v := fun b j v hb hc => (World.cell?_of_block ((hgw.ex2 (g := V.heap.size)).block b (World.block_lt_of_cell? _ _ hc) (Nat.ne_of_lt (World.block_lt_of_cell? _ _ hc)) hb)).trans hc
      have hC6 : C0 g r H.length bc x E q N cc V6 := ⟨hne6 _ _ _ hgr hcV.1, hne6 _ _ _ hxr hcV.2.1, hne6 _ _ _ hxr hcV.2.2⟩
      refine hK.out (Bl V6) _ _ (Bl.stays V6) (fun _ W h => ⟨cell_below h hC6.1, cell_below h hC6.2.1, cell_below h hC6.2.2⟩) (Below.refl _ _) ?_
      clear hK K hV hrun a0 a1 hC0
      (try simp only [Act.put, List.getElem_toArray, List.getElem_cons_zero, List.getElem_cons_succ, List.setIfInBounds_toArray, List.set_cons_zero, List.set_cons_succ])
      generalize hVV : V = Va at *
      refine wpDet_ready (rs := [9]) (by kernel_rfl) (by simp) (AllDet.cons rfl (fun V hV K hK => ?_) AllDet.nil)
      rw [if_pos (by rfl)]
      refine wp_value (.pointer (some ⟨g, 0, none⟩)) V (by first | (go_simp; done) | (go_simp; rfl)) ?_
      refine hK.out (Bl V6) _ _ (Bl.stays V6) (fun _ => (fun W h => ⟨cell_below h hC6.1, cell_below h hC6.2.1, cell_below h hC6.2.2⟩)) hV ?_
      clear hK K hV
      (try simp only [Act.put, List.getElem_toArray, List.getElem_cons_zero, List.getElem_cons_succ, List.setIfInBounds_toArray, List.set_cons_zero, List.set_cons_succ])
      refine wpDet_ready (rs := [10]) (by kernel_rfl) (by simp) (AllDet.cons rfl (fun V hV K hK => ?_) AllDet.nil)
      rw [if_pos (by rfl)]
      refine wp_value (.pointer (some ⟨g, 0, none⟩)) V (by first | (go_simp; done) | (go_simp; rfl)) ?_
      refine hK.out (Bl V6) _ _ (Bl.stays V6) (fun _ => (fun W h => ⟨cell_below h hC6.1, cell_below h hC6.2.1, cell_below h hC6.2.2⟩)) hV ?_
      clear hK K hV
      (try simp only [Act.put, List.getElem_toArray, List.getElem_cons_zero, List.getElem_cons_succ, List.setIfInBounds_toArray, List.set_cons_zero, List.set_cons_succ])
      refine wpDet_ready (rs := [11]) (by kernel_rfl) (by simp) (AllDet.cons rfl (fun V hV K hK => ?_) AllDet.nil)
      rw [if_pos (by rfl)]
      refine wp_value (.pointer (some ⟨g, 0, none⟩)) V (by first | (go_simp; done) | (go_simp; rfl)) ?_
      refine hK.out (Bl V6) _ _ (Bl.stays V6) (fun _ => (fun W h => ⟨cell_below h hC6.1, cell_below h hC6.2.1, cell_below h hC6.2.2⟩)) hV ?_
      clear hK K hV
      (try simp only [Act.put, List.getElem_toArray, List.getElem_cons_zero, List.getElem_cons_succ, List.setIfInBounds_toArray, List.set_cons_zero, List.set_cons_succ])
      refine wpDet_ready (rs := [12]) (by kernel_rfl) (by simp) (AllDet.cons rfl (fun V hV K hK => ?_) AllDet.nil)
      rw [if_pos (by rfl)]
      have hg2 := hgw.below hV
      have hLn := hLV.grew hg2 (owns_below hown hV) (⟨hrV, fun a ha h0 => by have := hql a ha h0; exact ⟨by show a.block ≠ g; omega, by show a.block ≠ r; omega⟩⟩ : (⟨E, q, N, cc, M⟩ : HE).rd Va g r)
      have u0 := cell_below hV hC6.1
      have hfz : V.frozen? ⟨g, 0, none⟩ = false := by have := hLn.blk.free 0; simpa [World.frozen?_setCell] using this
      refine wp_store_slice _ _ _ rfl g 0 (some ⟨r6, 0, none⟩) (H.length + 1) bc6 _ rfl rfl sizeSlC u0 hfz ?_
      have hz : S4 Va g r r6 bc6 ⟨e, px, nx, cx, ms⟩ i (H ++ [⟨E, q, N, cc, M⟩]) x E q N cc M (V.setCell ⟨g, 0, none⟩ (.slice (some ⟨r6, 0, none⟩) (H.length + 1) bc6)) := ⟨hLn, (hg2.ex2 (g := g)).setG 0 _, by rw [World.cell?_setCell_other (h := fun h => hxg (congrArg Addr.block h).symm)]; exact cell_below hV hC6.2.1, by rw [World.cell?_setCell_other (h := fun h => hxg (congrArg Addr.block h).symm)]; exact cell_below hV hC6.2.2, (hrV.ex2 (hg2.ex2 (g := g)) (fun a ha h0 => by have := hql a ha h0; exact ⟨by omega, by omega⟩)).set1 _ (fun a ha h0 => by have := hql a ha h0; omega)⟩
      refine hK.out (S4 Va g r r6 bc6 ⟨e, px, nx, cx, ms⟩ i (H ++ [⟨E, q, N, cc, M⟩]) x E q N cc M) _ _ (S4.stays _ _ _ _ _ _ _ _ _ _ _ _ _ _) (no_lean (by kernel_rfl)) hz ?_
      have ho6 := hg2.or
      clear hK K hV hz hLn u0 hfz hg2
      (try simp only [Act.put, List.getElem_toArray, List.getElem_cons_zero, List.getElem_cons_succ, List.setIfInBounds_toArray, List.set_cons_zero, List.set_cons_succ])
      refine wpDet_done (by kernel_rfl) (fun W6 hV => ?_) _
      obtain ⟨hL6n, hEn, z0n, z1n, rq6n⟩ := hV
      have hle6 : w.heap.size ≤ Va.heap.size := hEV.size
      have hq6 : ∀ a, q = some a → 0 < N → a.block ≠ r6 := fun a ha h0 => by have h1 := hql a ha h0; have h2 := rd_lt hrV ha h0; exact ho6.elim (fun h => by omega) (fun h => by omega)
      have hE8 := hEV.trans hEn (Or.inl rfl)
      clear hL6 hE6 rq6 z0 z1 hgw hown hcV hC6 hLV hEn q0 q1 q2 q3
      obtain ⟨q0, q1, q2, q3⟩ := hL6n.blk.four
      have fz1 := hL6n.blk.free 1
      have fz2 := hL6n.blk.free 2
      obtain ⟨p0, p1, p2, p3⟩ := hL6n.blk.four
      dsimp only at p0 p1 p2 p3
      have hf : (⟨E, q, N, cc, M⟩ : HE).rd W6 g r6 := ⟨rq6n, fun a ha h0 => by have := hql a ha h0; exact ⟨by omega, hq6 a ha h0⟩⟩
      have hL7 := hL6n.setNow hf
      have hE7 : Ex2 g r w ((W6.setCell ⟨g, 1, none⟩ (.int .i64 E)).setCell ⟨g, 2, none⟩ (.slice q N cc)) := (hE8.setG 1 _).setG 2 _
      clear hL6n hE8 hf q0 q1 q2 q3
      go_wp2_with fail
      go_ret
      exact ⟨rfl, AftF.mk r6 (ho6.imp id (fun h => Nat.le_trans hle6 h)) ⟨bc6, _, _, hL7, rfl, by rw [List.map_append, hH]; rfl, hF.out.snoc HQF.out⟩, hE7⟩

theorem ApplyF_any (B0 g r : Nat) (s : PL) (w : World) (hBw : B0 ≤ w.heap.size) (h : LPf B0 w g r s) (hs : s.ok) (i : Int) (p : Option Addr) (n c : Nat) (xs : List Int) (hr : Rd .u8 w p n c xs) (hxb : By xs) (hn : n ≤ 1099511627776) :
    Calls Try.prog 27 #[.pointer (some ⟨g, 0, none⟩), .int .i64 i, .slice p n c] w fun o w' => o = .returned (.int .i64 (s.app i xs).1) ∧ AftF B0 w w' g r (s.app i xs).2 ∧ Ex2 g r w w' := by
  have a0 := hs.at0
  have a1 := hs.at1
  have c6 := chk_parts hs.chk
  have cl := hs.len
  by_cases hi : i = s.at_ + 1 ∧ i ≤ 1099511627776
  · by_cases hx : xs = []
    · have hn0 : n = 0 := by rw [← hr.len, hx]; rfl
      subst hn0
      have e : s.app i xs = (0, { s with at_ := i }) := by unfold PL.app; rw [if_pos hi, if_pos hx]
      rw [e]
      refine (ApplyF_none B0 g r s w hBw h i p c (by omega) hi).mono ?_
      rintro o w' ⟨h1, h2, h3⟩
      exact ⟨h1, AftF.mk r (Or.inl rfl) h2, h3⟩
    · have h0 : 0 < n := by
        rcases Nat.eq_zero_or_pos n with h | h
        · exact absurd (List.length_eq_zero_iff.1 (hr.len.trans h)) hx
        · exact h
      have e : s.app i xs = s.cmd i (getR xs) := by unfold PL.app; rw [if_pos hi, if_neg hx]
      rw [e]
      match hR : getR xs with
      | none => exact ApplyF_bad B0 g r s w hBw h i p n c xs hr hxb hn h0 (by omega) hi (by omega) (by omega) hR
      | some (k, nd, st, ep) =>
        by_cases hep : ep = s.e
        · have e2 : s.cmd i (some (k, nd, st, ep)) = s.ch i (chR k nd st s.e s.ms) := if_pos hep
          rw [e2]
          match hc : chR k nd st s.e s.ms with
          | .error er => exact ApplyF_err B0 g r s w hBw h i p n c xs hr hxb hn h0 (by omega) hi (by omega) (by omega) k nd st ep hR hep er hc
          | .ok (E, M) =>
            by_cases hlt : s.e < E
            · have e3 : s.ch i (.ok (E, M)) = (0, ⟨E, M, i, s.H ++ [(E, M)]⟩) := by unfold PL.ch; dsimp only; rw [if_pos hlt]
              rw [e3]
              exact ApplyF_new B0 g r s w hBw h i p n c xs hr hxb hn h0 (by omega) hi (by omega) (by omega) k nd st ep hR hep E M hc hlt
            · have e3 : s.ch i (.ok (E, M)) = (0, ⟨E, M, i, s.H⟩) := by unfold PL.ch; dsimp only; rw [if_neg hlt]
              rw [e3]
              exact ApplyF_rdy B0 g r s w hBw h i p n c xs hr hxb hn h0 (by omega) hi (by omega) (by omega) k nd st ep hR hep E M hc hlt
        · have e2 : s.cmd i (some (k, nd, st, ep)) = (150, { s with at_ := i }) := if_neg hep
          rw [e2]
          exact ApplyF_ep B0 g r s w hBw h i p n c xs hr hxb hn h0 (by omega) hi (by omega) (by omega) k nd st ep hR hep
  · have e : s.app i xs = (90, s) := by unfold PL.app; rw [if_neg hi]
    rw [e]
    refine (ApplyF_gap B0 g r s w hBw h i _ ⟨by omega, by omega⟩ hi).mono ?_
    rintro o w' ⟨h1, h2⟩
    subst h2
    exact ⟨h1, AftF.mk r (Or.inl rfl) h, Ex2.refl _ _ _⟩

end Go.Proofs.Ytcnkpgbmegppbaa.M

namespace Go.Proofs.Ytcnkpgbmegppbaa.M
open Go.ChangeShapes Go.WideShapes Go.ChangeAt Go.RowKit

theorem LPf.born (B : Nat) (w : World) (q : Option Addr) (N c : Nat) (M : List Mb) (hr : RdM w q N c M) (hq : ∀ a, q = some a → 0 < N → B ≤ a.block) :
    LPf B ((w.alloc (.cells #[.int .i64 1, .slice q N c] 42)).alloc (.cells #[.slice (some ⟨w.heap.size, 0, none⟩) 1 1, .int .i64 1, .slice q N c, .int .i64 0] 82)) (w.heap.size + 1) w.heap.size ⟨1, M, 0, [(1, M)]⟩ := by
  have h1 := below_alloc w (.cells #[.int .i64 1, .slice q N c] 42)
  have h2 := below_alloc (w.alloc (.cells #[.int .i64 1, .slice q N c] 42)) (.cells #[.slice (some ⟨w.heap.size, 0, none⟩) 1 1, .int .i64 1, .slice q N c, .int .i64 0] 82)
  have hb := h1.trans (h2.mono h1.size)
  have hx : (⟨1, q, N, c, M⟩ : HE).rd ((w.alloc (.cells #[.int .i64 1, .slice q N c] 42)).alloc (.cells #[.slice (some ⟨w.heap.size, 0, none⟩) 1 1, .int .i64 1, .slice q N c, .int .i64 0] 82)) (w.heap.size + 1) w.heap.size :=
    ⟨hr.below hb, fun a ha h0 => by have : a.block < w.heap.size := rd_lt hr ha h0; exact ⟨by omega, by omega⟩⟩
  refine ⟨1, ⟨1, q, N, c, M⟩, [⟨1, q, N, c, M⟩], ⟨?_, ⟨rfl, Or.inr ⟨w.heap.size, 1, #[.int .i64 1, .slice q N c], rfl, Nat.zero_le _, ?_, Nat.le_refl _, by decide, rfl, rfl⟩⟩, by omega, hx, fun h hh => by rw [List.mem_singleton.1 hh]; exact hx, Nat.zero_lt_one⟩, rfl, rfl, fun y hy a ha h0 => by rcases hy with rfl | hy; (exact hq a ha h0); (rw [List.mem_singleton.1 hy] at ha h0; exact hq a ha h0)⟩
  · have := At.new 82 (w.alloc (.cells #[.int .i64 1, .slice q N c] 42)) #[.slice (some ⟨w.heap.size, 0, none⟩) 1 1, .int .i64 1, .slice q N c, .int .i64 0]
    refine At.moved ?_ this
    simp
  · exact (At.new 42 w #[.int .i64 1, .slice q N c]).below h2

set_option maxRecDepth 20000 in
set_option maxHeartbeats 2000000 in
theorem NewF_ok (p : Option Addr) (n c : Nat) (ms : List Mb) (w : World) (hr : RdM w p n c ms) (M : List Mb) (hF : FirstIs n ms (.ok (1, M))) :
    Calls Try.prog 17 #[.slice p n c] w fun r w' => ∃ v, r = .returned v ∧ ∃ g r, v = .tuple #[.pointer (some ⟨g, 0, none⟩), .int .i64 0] ∧ LPf w.heap.size w' g r ⟨1, M, 0, [(1, M)]⟩ ∧ w.heap.size ≤ g ∧ w.heap.size ≤ r ∧ Below w.heap.size w w' := by
  have g1 := hF p c w hr
  clear hr hF
  go_enter Try.func17, Try.ntmps17
  go_wp2_with fail
  refine g1.mono ?_
  rintro r w1 ⟨v, rfl, hT, hb1⟩
  obtain ⟨q, d, hv, hqf, hrM⟩ := hT
  subst hv
  have hba := below_alloc w1 (.cells #[.int .i64 1, .slice q M.length d] 42)
  have hB := hb1.trans (hba.mono hb1.size)
  have hL := LPf.born w.heap.size _ q M.length d M (hrM.below hba) hqf
  have hC := At.new 42 w1 #[.int .i64 1, .slice q M.length d]
  obtain ⟨c0, c1⟩ := hC.two
  have hB2 := (hB.trans ((below_alloc _ (.cells #[.int .i64 1, .slice q M.length d] 42)).mono hB.size))
  have hB3 := (hB2.trans ((below_alloc _ (.cells #[.slice (some ⟨(w1.alloc (.cells #[.int .i64 1, .slice q M.length d] 42)).heap.size, 0, none⟩) 1 1, .int .i64 1, .slice q M.length d, .int .i64 0] 82)).mono hB2.size))
  have hs := hB.size
  clear g1 hrM hb1 hba hC hqf
  go_wp2_with fail
  go_ret2
  simp only [World.size_alloc] at hL hB3 hs ⊢
  exact ⟨_, rfl, _, _, rfl, hL, by omega, hs, hB3⟩


set_option linter.unusedSimpArgs false in
set_option maxRecDepth 20000 in
set_option maxHeartbeats 4000000 in
theorem made_lawF (p : Option Addr) (n c : Nat) (ms : List Mb) (w : World) (hm : RdM w p n c ms) (M : List Mb) (hF : FirstIs n ms (.ok (1, M))) (hM : chk 1 M = true) (q : Option Addr) (m d : Nat) (ls : List Dj) (h : RdJ w q m d ls) (hm1 : m ≤ 150) (hsm : Small ls) :
    Calls Try.prog 18 #[.slice p n c, .slice q m d] w fun o w' => ∃ v, o = .returned v ∧ ∃ g r, v = .pointer (some ⟨g, 0, none⟩) ∧ LPf w.heap.size w' g r (playJ ⟨1, M, 0, [(1, M)]⟩ ls m) ∧ w.heap.size ≤ g ∧ w.heap.size ≤ r ∧ Below w.heap.size w w' := by
  have hN := NewF_ok p n c ms w hm M hF
  have hs0 : (⟨1, M, 0, [(1, M)]⟩ : PL).ok := PL.first_ok hM
  clear hm hF
  go_enter Try.func18, Try.ntmps18
  go_wp2_with fail
  refine hN.mono ?_
  rintro o w1 ⟨v, rfl, g, r1, rfl, hL1, hg, hr1, hb1⟩
  go_wp2_with fail
  generalize hs00 : (⟨1, M, 0, [(1, M)]⟩ : PL) = s0 at *
  have HS00 : Hid ((⟨1, M, 0, [(1, M)]⟩ : PL) = s0) := hs00
  clear hs00
  generalize hB : w.heap.size = B at *
  go_loopw [16] (fun i wr => ∃ (k r : Nat), k ≤ m ∧ i = .int .i64 k ∧ LPf B wr g r (playJ s0 ls k) ∧ B ≤ r ∧ Below B w wr) (fun i _ => m - (intOf i).toNat)
  case atStart => exact ⟨0, r1, Nat.zero_le _, rfl, hL1, hr1, hb1⟩
  case round =>
    clear hL1 hr1 hb1 hN
    obtain ⟨k, r, hk, rfl, hL, hr, hb⟩ := hrel
    by_cases hkn : k < m
    · have hki : (k : Int) < (m : Int) := by omega
      have hs := playJ_ok hs0 ls k
      have HS : Hid (playJ s0 ls (k + 1) = stepJ (playJ s0 ls k) (ls.getD k .z0)) := rfl
      have hl6 := (chk_parts hs.chk).2.2.2
      have hse : 0 ≤ (playJ s0 ls k).e ∧ (playJ s0 ls k).e ≤ 1099511627776 := by have := chk_parts hs.chk; omega
      generalize playJ s0 ls k = s at *
      obtain ⟨b, o, rfl, hc⟩ := h.cells (by omega)
      have hck := hc k hkn
      have hblt := World.block_lt_of_cell? _ _ hck.c0
      have hck2 := hck.below hb (by rw [← hB]; exact hblt)
      have hrd0 := (h.rd k hkn).below (hB ▸ hb)
      have hbl : (ls.getD k .z0).bl ≤ 1099511627776 := by have := hsm k (by rw [h.len]; exact hkn); omega
      clear hc hck h hsm hs0
      generalize ls.getD k .z0 = z at *
      obtain ⟨xk, xn, xs, xe, bq, bl, bc, raw, by_, off, xb⟩ := z
      obtain ⟨c0, c1, c2, c3, c4, c5, c6, c7⟩ := hck2
      dsimp only at *
      have hba := below_alloc wr (.cells #[.int .i64 xk, .int .i64 xn, .int .i64 xs, .int .i64 xe, .slice bq bl bc, .bool raw, .int .i64 by_, .int .i64 off] 57)
      have hA5 := At.new 57 wr #[.int .i64 xk, .int .i64 xn, .int .i64 xs, .int .i64 xe, .slice bq bl bc, .bool raw, .int .i64 by_, .int .i64 off]
      have hL5 := hL.below hba
      have hrd5 := hrd0.below hba
      have hgs : B ≤ wr.heap.size := by rw [← hB]; exact hb.size
      have hxg : wr.heap.size ≠ g := Nat.ne_of_gt hL.lp.lt.1
      have hxr : wr.heap.size ≠ r := Nat.ne_of_gt hL.lp.lt.2
      have hB5 : B ≤ (wr.alloc (.cells #[.int .i64 xk, .int .i64 xn, .int .i64 xs, .int .i64 xe, .slice bq bl bc, .bool raw, .int .i64 by_, .int .i64 off] 57)).heap.size := Nat.le_trans hgs hba.size
      have hb5 : Below B w (wr.alloc (.cells #[.int .i64 xk, .int .i64 xn, .int .i64 xs, .int .i64 xe, .slice bq bl bc, .bool raw, .int .i64 by_, .int .i64 off] 57)) := hb.trans (hba.mono hgs)
      clear hL hrd0 hb hba hgs
      go_wp2_with fail
      generalize (wr.alloc (.cells #[.int .i64 xk, .int .i64 xn, .int .i64 xs, .int .i64 xe, .slice bq bl bc, .bool raw, .int .i64 by_, .int .i64 off] 57)) = w5 at *
      generalize wr.heap.size = x at *
      have hS5 : Bl w5 w5.drew := (Below.refl _ _).drew
      refine wp_region_det [0, 1, 2, 5, 6, 8] (fun W => At 57 W x #[.int .i64 xk, .int .i64 xn, .int .i64 xs, .int .i64 xe, .slice bq bl bc, .bool raw, .int .i64 by_, .int .i64 off]) (Bl w5) (by kernel_rfl) hS5 ?_
      refine wpDet_take ?vM0 (Bl.stays w5) (fun W h => hA5.below h) (i := 0) rfl (by kernel_rfl) (by kernel_rfl) (by kernel_rfl) (by kernel_rfl) (fun _ _ _ h => h) (Gives.value (by rfl) ?yM0) ?rM0
      case yM0 => (intro w' hSw; go_simp; try with_reducible rfl)
      (try simp only [Act.put, List.getElem_toArray, List.getElem_cons_zero, List.getElem_cons_succ, List.setIfInBounds_toArray, List.set_cons_zero, List.set_cons_succ])
      refine wpDet_take _ (Bl.stays w5) (fun W h => hA5.below h) (i := 1) rfl (by kernel_rfl) (by kernel_rfl) (by kernel_rfl) (by kernel_rfl) (fun _ _ _ h => h) (Gives.of_yields (yieldsIf_load_mid (by rfl) _ _ rfl _ _ rfl _ _ (fun W h => h.range) Try.underlying57 rfl sizeDo)) ?_
      (try simp only [Act.put, List.getElem_toArray, List.getElem_cons_zero, List.getElem_cons_succ, List.setIfInBounds_toArray, List.set_cons_zero, List.set_cons_succ])
      refine wpDet_take ?vM2 (Bl.stays w5) (fun W h => hA5.below h) (i := 2) rfl (by kernel_rfl) (by kernel_rfl) (by kernel_rfl) (by kernel_rfl) (fun _ _ _ h => h) (Gives.value (by rfl) ?yM2) ?rM2
      case yM2 => (intro w' hSw; go_simp; try with_reducible rfl)
      (try simp only [Act.put, List.getElem_toArray, List.getElem_cons_zero, List.getElem_cons_succ, List.setIfInBounds_toArray, List.set_cons_zero, List.set_cons_succ])
      refine wpDet_take _ (Bl.stays w5) (fun W h => hA5.below h) (i := 5) rfl (by kernel_rfl) (by kernel_rfl) (by kernel_rfl) (by kernel_rfl) (fun _ _ _ h => h) (Gives.of_yields (yieldsIf_load_mid (by rfl) _ _ rfl _ _ rfl _ _ (fun W h => h.range) Try.underlying57 rfl sizeDo)) ?_
      (try simp only [Act.put, List.getElem_toArray, List.getElem_cons_zero, List.getElem_cons_succ, List.setIfInBounds_toArray, List.set_cons_zero, List.set_cons_succ])
      refine wpDet_take ?vM6 (Bl.stays w5) (fun W h => hA5.below h) (i := 6) rfl (by kernel_rfl) (by kernel_rfl) (by kernel_rfl) (by kernel_rfl) (fun _ _ _ h => h) (Gives.value (by rfl) ?yM6) ?rM6
      case yM6 => (intro w' hSw; go_simp; try with_reducible rfl)
      (try simp only [Act.put, List.getElem_toArray, List.getElem_cons_zero, List.getElem_cons_succ, List.setIfInBounds_toArray, List.set_cons_zero, List.set_cons_succ])
      refine wpDet_ready (rs := [3]) (by kernel_rfl) (by simp) (AllDet.cons rfl (fun V hV K hK => ?_) AllDet.nil)
      rw [if_pos (by rfl)]
      refine wp_enterE 28 #[.pointer (some ⟨g, 0, none⟩)] (by first | (go_simp; done) | (go_simp; rfl)) (fun v W => v = .int .i64 s.at_ ∧ W = V) ((At_any g r s V (hL5.below hV).lp).mono fun e' w' hh => ⟨_, hh.1, rfl, hh.2⟩) ?_
      rintro v V7 ⟨rfl, hw7⟩
      subst V7
      refine hK.out (Bl w5) _ _ (Bl.stays w5) (fun _ => (fun W h => hA5.below h)) hV ?_
      clear hK K hV
      (try simp only [Act.put, List.getElem_toArray, List.getElem_cons_zero, List.getElem_cons_succ, List.setIfInBounds_toArray, List.set_cons_zero, List.set_cons_succ])
      refine wpDet_ready (rs := [4]) (by kernel_rfl) (by simp) (AllDet.cons rfl (fun V hV K hK => ?_) AllDet.nil)
      rw [if_pos (by rfl)]
      refine wp_enterE 30 #[.agg #[.int .i64 xk, .int .i64 xn, .int .i64 xs, .int .i64 xe, .slice bq bl bc, .bool raw, .int .i64 by_, .int .i64 off], .int .i64 s.at_] (by first | (go_simp; done) | (go_simp; rfl)) (fun v W => v = .int .i64 (ixR ⟨xk, xn, xs, xe, bq, bl, bc, raw, by_, off, xb⟩ s.at_) ∧ Below V.heap.size V W) ((index_any xk xn xs xe bq bl bc raw by_ off xb s.at_ ⟨hs.at0, hs.at1⟩ V).mono fun e' w' hh => ⟨_, hh.1, rfl, hh.2⟩) ?_
      rintro v V7 ⟨rfl, hb7⟩
      refine hK.out (Bl w5) _ _ (Bl.stays w5) (fun _ => (fun W h => hA5.below h)) (Bl.stays w5 V V7 hV hb7) ?_
      clear hK K hV hb7
      (try simp only [Act.put, List.getElem_toArray, List.getElem_cons_zero, List.getElem_cons_succ, List.setIfInBounds_toArray, List.set_cons_zero, List.set_cons_succ])
      refine wpDet_ready (rs := [7]) (by kernel_rfl) (by simp) (AllDet.cons rfl (fun V hV K hK => ?_) AllDet.nil)
      rw [if_pos (by rfl)]
      refine wp_enterE 20 #[.pointer (some ⟨g, 0, none⟩)] (by first | (go_simp; done) | (go_simp; rfl)) (fun v W => (∃ q d, v = .agg #[.int .i64 s.e, .slice q s.ms.length d]) ∧ Below V.heap.size V W) ((Chain_any g r s V (hL5.below hV).lp hl6).mono fun e' w' hh => by obtain ⟨v, h1, q, d, h2, _, _, h3⟩ := hh; exact ⟨v, h1, ⟨q, d, h2⟩, h3⟩) ?_
      rintro v V7 ⟨⟨q7, d7, rfl⟩, hb7⟩
      refine hK.out (Bl w5) _ _ (Bl.stays w5) (fun _ => (fun W h => hA5.below h)) (Bl.stays w5 V V7 hV hb7) ?_
      clear hK K hV hb7
      (try simp only [Act.put, List.getElem_toArray, List.getElem_cons_zero, List.getElem_cons_succ, List.setIfInBounds_toArray, List.set_cons_zero, List.set_cons_succ])
      refine wpDet_take ?vM8 (Bl.stays w5) (fun W h => hA5.below h) (i := 8) rfl (by kernel_rfl) (by kernel_rfl) (by kernel_rfl) (by kernel_rfl) (fun _ _ _ h => h) (Gives.value (by rfl) ?yM8) ?rM8
      case yM8 => (intro w' hSw; have hfe := field_e; go_simp; try with_reducible rfl)
      (try simp only [Act.put, List.getElem_toArray, List.getElem_cons_zero, List.getElem_cons_succ, List.setIfInBounds_toArray, List.set_cons_zero, List.set_cons_succ])
      refine wpDet_ready (rs := [9]) (by kernel_rfl) (by simp) (AllDet.cons rfl (fun V hV K hK => ?_) AllDet.nil)
      rw [if_pos (by rfl)]
      refine wp_enterE 26 #[.agg #[.int .i64 xk, .int .i64 xn, .int .i64 xs, .int .i64 xe, .slice bq bl bc, .bool raw, .int .i64 by_, .int .i64 off], .int .i64 s.e] (by first | (go_simp; done) | (go_simp; rfl)) (fun v W => Dat V W ⟨xk, xn, xs, xe, bq, bl, bc, raw, by_, off, xb⟩ s.e v ∧ Below V.heap.size V W) ((data_any ⟨xk, xn, xs, xe, bq, bl, bc, raw, by_, off, xb⟩ s.e hse V (hrd5.below hV)).mono fun e' w' hh => by obtain ⟨v, h1, h2, h3⟩ := hh; exact ⟨v, h1, h2, h3⟩) ?_
      rintro v V7 ⟨⟨p9, n9, c9, rfl, hrd9, hby9, hn9, hfar9⟩, hb7⟩
      refine hK.out (fun W => Bl w5 W ∧ Rd .u8 W p9 n9 c9 (dataR ⟨xk, xn, xs, xe, bq, bl, bc, raw, by_, off, xb⟩ s.e)) _ _ ((Bl.stays w5).and (Rd.stays _ _ _ _)) (fun _ W h => hA5.below h.1) ⟨Bl.stays w5 V V7 hV hb7, hrd9⟩ ?_
      clear hK K hV hb7 hrd9 hfar9
      (try simp only [Act.put, List.getElem_toArray, List.getElem_cons_zero, List.getElem_cons_succ, List.setIfInBounds_toArray, List.set_cons_zero, List.set_cons_succ])
      refine wpDet_ready (rs := [10]) (by kernel_rfl) (by simp) (AllDet.cons rfl (fun V hV K hK => ?_) AllDet.nil)
      rw [if_pos (by rfl)]
      have hLV := hL5.below hV.1
      have hA9 := hA5.below hV.1
      have hb9 := Bl.out hV.1
      have hAp := ApplyF_any B g r s V (Nat.le_trans hB5 hb9.size) hLV hs (ixR ⟨xk, xn, xs, xe, bq, bl, bc, raw, by_, off, xb⟩ s.at_) p9 n9 c9 (dataR ⟨xk, xn, xs, xe, bq, bl, bc, raw, by_, off, xb⟩ s.e) hV.2 hby9 (hn9.elim (fun h => Nat.le_trans h hbl) (fun h => by omega))
      refine wp_enterE 27 #[.pointer (some ⟨g, 0, none⟩), .int .i64 (ixR ⟨xk, xn, xs, xe, bq, bl, bc, raw, by_, off, xb⟩ s.at_), .slice p9 n9 c9] (by first | (go_simp; done) | (go_simp; rfl)) (fun v W => v = .int .i64 (s.app (ixR ⟨xk, xn, xs, xe, bq, bl, bc, raw, by_, off, xb⟩ s.at_) (dataR ⟨xk, xn, xs, xe, bq, bl, bc, raw, by_, off, xb⟩ s.e)).1 ∧ AftF B V W g r (s.app (ixR ⟨xk, xn, xs, xe, bq, bl, bc, raw, by_, off, xb⟩ s.at_) (dataR ⟨xk, xn, xs, xe, bq, bl, bc, raw, by_, off, xb⟩ s.e)).2 ∧ Ex2 g r V W) (hAp.mono fun e' w' hh => ⟨_, hh.1, rfl, hh.2⟩) ?_
      rintro v V7 ⟨rfl, hAf, hE7⟩
      obtain ⟨r7, hr7, hL7⟩ := hAf
      have hA7 : At 57 V7 x #[.int .i64 xk, .int .i64 xn, .int .i64 xs, .int .i64 xe, .slice bq bl bc, .bool raw, .int .i64 by_, .int .i64 off] := (hE7.block x hA9.lt hxg hxr).trans hA9
      have hB7 := hb9.mono hB5 |>.trans (hE7.below hg hr (Nat.le_trans hB5 hb9.size))
      refine hK.out (fun W => LPf B W g r7 (s.app (ixR ⟨xk, xn, xs, xe, bq, bl, bc, raw, by_, off, xb⟩ s.at_) (dataR ⟨xk, xn, xs, xe, bq, bl, bc, raw, by_, off, xb⟩ s.e)).2 ∧ At 57 W x #[.int .i64 xk, .int .i64 xn, .int .i64 xs, .int .i64 xe, .slice bq bl bc, .bool raw, .int .i64 by_, .int .i64 off] ∧ B ≤ W.heap.size ∧ Below B w5 W) _ _ (fun _ _ h hb => ⟨h.1.below hb, h.2.1.below hb, Nat.le_trans h.2.2.1 hb.size, h.2.2.2.trans (hb.mono h.2.2.1)⟩) (fun _ W h => h.2.1) ⟨hL7, hA7, Nat.le_trans hB5 (Nat.le_trans hb9.size hE7.size), hB7⟩ ?_
      have hr70 : B ≤ r7 := hr7.elim (fun h => by rw [h]; exact hr) (fun h => Nat.le_trans (Nat.le_trans hB5 hb9.size) h)
      clear hK K hV hLV hA9 hb9 hAp hE7 hL7 hA7 hB7 hr7
      (try simp only [Act.put, List.getElem_toArray, List.getElem_cons_zero, List.getElem_cons_succ, List.setIfInBounds_toArray, List.set_cons_zero, List.set_cons_succ])
      refine wpDet_done (by kernel_rfl) (fun W9 hV => ?_) _
      obtain ⟨hL9, hA9, hs9, hB9⟩ := hV
      have hBf := hb5.trans hB9
      have hL9' : LPf B W9 g r7 (playJ s0 ls (k + 1)) := by rw [HS.out]; exact hL9
      clear hL5 hA5 hrd5 hL9 hA9 hb5
      go_wp2_with fail
      exact ⟨⟨k + 1, r7, by omega, by go_num, hL9', hr70, hBf⟩, by simp [intOf]; omega⟩
    · obtain rfl : k = m := by omega
      clear h hsm
      go_wp2_with fail
      go_ret
      exact ⟨_, rfl, g, r, rfl, by rw [HS00.out, hB]; exact hL, by rw [hB]; exact hg, by rw [hB]; exact hr, by rw [hB]; exact hb⟩


/-- A ledger in block gt, row rt, that changes of blocks g and r leave alone. -/
def Tw (w : World) (g r gt rt : Nat) (s : PL) : Prop := ∃ bc x H, LB w gt rt bc x s.at_ H ∧ x.ch = (s.e, s.ms) ∧ H.map HE.ch = s.H ∧ (gt ≠ g ∧ gt ≠ r) ∧ (rt ≠ g ∧ rt ≠ r) ∧ ∀ y ∈ x :: H, ∀ a, y.p = some a → 0 < y.n → a.block ≠ g ∧ a.block ≠ r

theorem Tw.lp {w : World} {g r gt rt : Nat} {s : PL} (h : Tw w g r gt rt s) : LP w gt rt s := by
  obtain ⟨bc, x, H, h1, h2, h3, _⟩ := h
  exact ⟨bc, x, H, h1, h2, h3⟩

theorem Tw.below {w w' : World} {g r gt rt : Nat} {s : PL} (h : Tw w g r gt rt s) (hb : Below w.heap.size w w') : Tw w' g r gt rt s := by
  obtain ⟨bc, x, H, h1, h2⟩ := h
  exact ⟨bc, x, H, h1.below hb, h2⟩

theorem Tw.ex2 {w w' : World} {g r r' gt rt : Nat} {s : PL} (h : Tw w g r gt rt s) (he : Ex2 g r w w') (hr : r' = r ∨ w.heap.size ≤ r') : Tw w' g r' gt rt s := by
  obtain ⟨bc, x, H, h1, h2, h3, h4, h5, h6⟩ := h
  have hg := h1.blk.lt
  have hrl := h1.lr
  refine ⟨bc, x, H, h1.kept he h4 h5 h6, h2, h3, ⟨h4.1, fun e => ?_⟩, ⟨h5.1, fun e => ?_⟩, fun y hy a ha h0 => ⟨(h6 y hy a ha h0).1, fun e => ?_⟩⟩
  · rcases hr with e1 | e1
    · exact h4.2 (e.trans e1)
    · omega
  · rcases hr with e1 | e1
    · exact h5.2 (e.trans e1)
    · omega
  · rcases hr with e1 | e1
    · exact (h6 y hy a ha h0).2 (e.trans e1)
    · have hrd : y.rd w gt rt := by
        rcases List.mem_cons.1 hy with rfl | hy
        · exact h1.now
        · exact h1.old y hy
      have := rd_lt hrd.1 ha h0
      omega

/-- New memory is apart from all that stood. -/
theorem LPf.tw {B : Nat} {w : World} {g r gt rt : Nat} {s : PL} (h : LPf B w gt rt s) (hg : g < B) (hr : r < B) (hgt : B ≤ gt) (hrt : B ≤ rt) : Tw w g r gt rt s := by
  obtain ⟨bc, x, H, h1, h2, h3, h4⟩ := h
  refine ⟨bc, x, H, h1, h2, h3, ⟨by omega, by omega⟩, ⟨by omega, by omega⟩, fun y hy a ha h0 => ?_⟩
  have := h4 y (List.mem_cons.1 hy) a ha h0
  exact ⟨by omega, by omega⟩

/-- An append of elements of several cells to an empty slice. -/
theorem wpList_appG {P : Program} (w : World) {ops : Array Oper} {rest : List Oper} {o : Oper} {a : Act} {Q : Exit → Act → World → Prop} (hgd : o.guard = none) (s x : Operand) (t : TypeId)
    (hop : o.op = .call { callee := .builtin .append, args := #[s, x], argTypes := #[t, t] })
    (e : TypeId) (i : TypeInfo) (z : Value) (size by_ : Nat) (ht : P.underlying t = some (.slice e)) (hi : P.info? e = some i) (hz : i.zero = some z) (hsize : i.size = size) (hby : i.bytes = by_) (hzs : z.cells.size = size) (hsz : 0 < size)
    (ad : Addr) (hs : a.eval s = .slice (some ad) 0 0) (q : Addr) (m d : Nat) (news : List Value) (hx : a.eval x = .slice (some q) m d) (hl : news.length = m * size) (hnews : ∀ j u, news[j]? = some u → w.cell? (q.add j) = some u) (h0 : 0 < m) (hb : m * by_ ≤ 140737488355328) (h63 : m ≤ maxLen)
    (h : ∀ v w', w'.ownsRow w.heap.size e size v m news → Below w.heap.size w w' → wpList P ops Q rest (a.put o.dst v) w') : wpList P ops Q (o :: rest) a w := by
  refine wpList_plain hgd fun K hK => ?_
  obtain ⟨v, w', hrun, h1, h2⟩ := run_append_arg_grows (P := P) w t o.type e i z size by_ ht hi hz hsize hby hzs hsz ad 0 0 [] (by simp) (fun j u hj => by simp at hj) q m d news hl hnews (by omega) (by omega) (by rw [Nat.zero_add]; exact hb)
  rw [Nat.zero_add, List.nil_append] at h1
  unfold Oper.wp
  simp [execOp, hop, resolve, invoke, builtin, hs, hx, hrun, Result.andThen]
  exact hK _ _ (h v w' h1 ((Below.refl _ _).grown h2 (Nat.le_refl _) fun g hg => by cases hg))

theorem infoC : (Try.prog.info? 42).map (fun i => (i.zero, i.size, i.bytes)) = some (some (.agg #[.int .i64 0, .slice none 0 0]), 2, 32) := by kernel_rfl

set_option maxRecDepth 20000 in
set_option maxHeartbeats 1000000 in
theorem cloneC_any (r bc : Nat) (H : List HE) (w : World) (ho : w.ownsRow 0 42 2 (.slice (some ⟨r, 0, none⟩) H.length bc) H.length (cellsH H)) (h0 : 0 < H.length) (hl : H.length ≤ 1099511627776) :
    Calls Try.prog 54 #[.slice (some ⟨r, 0, none⟩) H.length bc] w fun e w' => ∃ v, e = .returned v ∧ w'.ownsRow w.heap.size 42 2 v H.length (cellsH H) ∧ Below w.heap.size w w' := by
  have q22 : ∀ (w : World) (a : Option Addr) (n c n' c' : Nat), (binOp .eql 78 (.slice a n c) (.slice none n' c')).run Try.prog w = .ok (.bool a.isNone) w := fun w a n c n' c' => Lib.run_eql_slice_nil w _ _ a n c n' c' Try.underlying78
  obtain ⟨i0, hi0, hz0, hz1, hz2⟩ := info_parts infoC
  have hba := below_alloc w (.cells #[] 42)
  have hcl := World.ownsRow.cells ho rfl
  have hc2 : ∀ j u, (cellsH H)[j]? = some u → (w.alloc (.cells #[] 42)).cell? ((⟨r, 0, none⟩ : Addr).add j) = some u := fun j u hj => by
    have h1 := hcl j u hj
    rw [Addr.add_lit] at h1 ⊢
    exact cell_below hba h1
  have hlen := cellsH_len H
  clear ho hcl
  generalize H.length = N at *
  go_enter Try.func54, Try.ntmps54
  go_wp2_with (refine wpList_appG _ rfl (.tmp 5) (.tmp 6) 78 rfl 42 i0 (.agg #[.int .i64 0, .slice none 0 0]) 2 32 Try.underlying78 hi0 hz0 hz1 hz2 rfl (by decide) _ rfl ⟨r, 0, none⟩ N bc (cellsH H) rfl hlen hc2 h0 ?c1 ?c2 ?_)
  case c1 => omega
  case c2 => unfold maxLen; omega
  intro v w' h1 h2
  go_wp2_with fail
  go_ret
  exact ⟨v, rfl, ownsRow_lower h1 (by simp), hba.trans (h2.mono (by simp))⟩

end Go.Proofs.Ytcnkpgbmegppbaa.M

namespace Go.Proofs.Ytcnkpgbmegppbaa.M
open Go.ChangeShapes Go.WideShapes Go.ChangeAt Go.RowKit

/-- What Clone's region reads. -/
def C3 (g : Nat) (v0 v1 v2 v3 : Value) (W : World) : Prop := At 82 W g #[v0, v1, v2, v3]

theorem ownsRow_below {w w' : World} {B : Nat} {e : TypeId} {sz : Nat} {v : Value} {n : Nat} {xs : List Value} (h : w.ownsRow B e sz v n xs) (hb : Below w.heap.size w w') : w'.ownsRow B e sz v n xs := by
  refine ⟨h.1, ?_⟩
  rcases h.2 with h2 | ⟨g', cap, cur, hv, hg, hh, r⟩
  · exact Or.inl h2
  · exact Or.inr ⟨g', cap, cur, hv, hg, by rw [hb.block g' (Array.getElem?_eq_some_iff.1 hh).1]; exact hh, r⟩

set_option linter.unusedSimpArgs false in
set_option maxRecDepth 20000 in
set_option maxHeartbeats 4000000 in
theorem CloneL_any (g r bc : Nat) (x : HE) (at_ : Int) (H : List HE) (w : World) (h : LB w g r bc x at_ H) (hl : H.length ≤ 1099511627776) :
    Calls Try.prog 29 #[.pointer (some ⟨g, 0, none⟩)] w fun o w' => ∃ gc rc bc', o = .returned (.pointer (some ⟨gc, 0, none⟩)) ∧ LB w' gc rc bc' x at_ H ∧ w.heap.size ≤ gc ∧ w.heap.size ≤ rc ∧ Below w.heap.size w w' := by
  have hm := made_yes g r bc x at_ H w h
  have hp := h.pos
  have HL : Hid (LB w g r bc x at_ H) := h
  obtain ⟨e, p, n, c, ms⟩ := x
  have hA : At 82 w g #[.slice (some ⟨r, 0, none⟩) H.length bc, .int .i64 e, .slice p n c, .int .i64 at_] := h.blk
  clear h
  go_enter Try.func29, Try.ntmps29
  go_wp2_with fail
  refine hm.mono ?_
  rintro o w1 ⟨rfl, hw⟩
  subst hw
  clear hm
  go_wp2_with fail
  have hS0 : Bl w1 w1.drew := (Below.refl _ _).drew
  refine wp_region_det [0, 1, 2, 3, 4, 6, 7, 8, 9, 10, 11, 12, 13, 14, 15, 17] (fun W => At 82 W g #[.slice (some ⟨r, 0, none⟩) H.length bc, .int .i64 e, .slice p n c, .int .i64 at_]) (Bl w1) (by kernel_rfl) hS0 ?_
  refine wpDet_take ?vA0 (Bl.stays w1) (fun W h => hA.below h) (i := 0) rfl (by kernel_rfl) (by kernel_rfl) (by kernel_rfl) (by kernel_rfl) (fun _ _ _ h => h) (Gives.value (by rfl) ?yA0) ?rA0
  case yA0 => (intro w' hSw; go_simp; try with_reducible rfl)
  (try simp only [Act.put, List.getElem_toArray, List.getElem_cons_zero, List.getElem_cons_succ, List.setIfInBounds_toArray, List.set_cons_zero, List.set_cons_succ])
  refine wpDet_take ?vA1 (Bl.stays w1) (fun W h => hA.below h) (i := 1) rfl (by kernel_rfl) (by kernel_rfl) (by kernel_rfl) (by kernel_rfl) (fun _ _ _ h => h) (Gives.value (by rfl) ?yA1) ?rA1
  case yA1 => (intro w' hSw; go_simp; try with_reducible rfl)
  (try simp only [Act.put, List.getElem_toArray, List.getElem_cons_zero, List.getElem_cons_succ, List.setIfInBounds_toArray, List.set_cons_zero, List.set_cons_succ])
  refine wpDet_take ?vA2 (Bl.stays w1) (fun W h => hA.below h) (i := 2) rfl (by kernel_rfl) (by kernel_rfl) (by kernel_rfl) (by kernel_rfl) (fun _ _ _ h => h) (Gives.value (by rfl) ?yA2) ?rA2
  case yA2 => (intro w' hSw; go_simp; try with_reducible rfl)
  (try simp only [Act.put, List.getElem_toArray, List.getElem_cons_zero, List.getElem_cons_succ, List.setIfInBounds_toArray, List.set_cons_zero, List.set_cons_succ])
  refine wpDet_take ?vA3 (Bl.stays w1) (fun W h => hA.below h) (i := 3) rfl (by kernel_rfl) (by kernel_rfl) (by kernel_rfl) (by kernel_rfl) (fun _ _ _ h => h) (Gives.value (by rfl) ?yA3) ?rA3
  case yA3 => (intro w' hSw; go_simp; try with_reducible rfl)
  (try simp only [Act.put, List.getElem_toArray, List.getElem_cons_zero, List.getElem_cons_succ, List.setIfInBounds_toArray, List.set_cons_zero, List.set_cons_succ])
  refine wpDet_take ?vA4 (Bl.stays w1) (fun W h => hA.below h) (i := 4) rfl (by kernel_rfl) (by kernel_rfl) (by kernel_rfl) (by kernel_rfl) (fun _ _ _ h => h) (Gives.value (by rfl) ?yA4) ?rA4
  case yA4 => (intro w' hSw; obtain ⟨z0, z1, z2, z3⟩ := hSw.four; go_simp; try with_reducible rfl)
  (try simp only [Act.put, List.getElem_toArray, List.getElem_cons_zero, List.getElem_cons_succ, List.setIfInBounds_toArray, List.set_cons_zero, List.set_cons_succ])
  refine wpDet_take ?vA7 (Bl.stays w1) (fun W h => hA.below h) (i := 7) rfl (by kernel_rfl) (by kernel_rfl) (by kernel_rfl) (by kernel_rfl) (fun _ _ _ h => h) (Gives.value (by rfl) ?yA7) ?rA7
  case yA7 => (intro w' hSw; go_simp; try with_reducible rfl)
  (try simp only [Act.put, List.getElem_toArray, List.getElem_cons_zero, List.getElem_cons_succ, List.setIfInBounds_toArray, List.set_cons_zero, List.set_cons_succ])
  refine wpDet_take ?vA8 (Bl.stays w1) (fun W h => hA.below h) (i := 8) rfl (by kernel_rfl) (by kernel_rfl) (by kernel_rfl) (by kernel_rfl) (fun _ _ _ h => h) (Gives.value (by rfl) ?yA8) ?rA8
  case yA8 => (intro w' hSw; go_simp; try with_reducible rfl)
  (try simp only [Act.put, List.getElem_toArray, List.getElem_cons_zero, List.getElem_cons_succ, List.setIfInBounds_toArray, List.set_cons_zero, List.set_cons_succ])
  refine wpDet_take ?vA9 (Bl.stays w1) (fun W h => hA.below h) (i := 9) rfl (by kernel_rfl) (by kernel_rfl) (by kernel_rfl) (by kernel_rfl) (fun _ _ _ h => h) (Gives.value (by rfl) ?yA9) ?rA9
  case yA9 => (intro w' hSw; go_simp; try with_reducible rfl)
  (try simp only [Act.put, List.getElem_toArray, List.getElem_cons_zero, List.getElem_cons_succ, List.setIfInBounds_toArray, List.set_cons_zero, List.set_cons_succ])
  refine wpDet_take _ (Bl.stays w1) (fun W h => hA.below h) (i := 10) rfl (by kernel_rfl) (by kernel_rfl) (by kernel_rfl) (by kernel_rfl) (fun _ _ _ h => h) (Gives.of_yields (yieldsIf_load_mid (by rfl) _ _ rfl _ _ rfl _ _ (fun W h => range2 (At.four h).2.1 (At.four h).2.2.1) Try.underlying42 rfl sizeC)) ?_
  (try simp only [Act.put, List.getElem_toArray, List.getElem_cons_zero, List.getElem_cons_succ, List.setIfInBounds_toArray, List.set_cons_zero, List.set_cons_succ])
  refine wpDet_take ?vA11 (Bl.stays w1) (fun W h => hA.below h) (i := 11) rfl (by kernel_rfl) (by kernel_rfl) (by kernel_rfl) (by kernel_rfl) (fun _ _ _ h => h) (Gives.value (by rfl) ?yA11) ?rA11
  case yA11 => (intro w' hSw; go_simp; try with_reducible rfl)
  (try simp only [Act.put, List.getElem_toArray, List.getElem_cons_zero, List.getElem_cons_succ, List.setIfInBounds_toArray, List.set_cons_zero, List.set_cons_succ])
  refine wpDet_take ?vA12 (Bl.stays w1) (fun W h => hA.below h) (i := 12) rfl (by kernel_rfl) (by kernel_rfl) (by kernel_rfl) (by kernel_rfl) (fun _ _ _ h => h) (Gives.value (by rfl) ?yA12) ?rA12
  case yA12 => (intro w' hSw; go_simp; try with_reducible rfl)
  (try simp only [Act.put, List.getElem_toArray, List.getElem_cons_zero, List.getElem_cons_succ, List.setIfInBounds_toArray, List.set_cons_zero, List.set_cons_succ])
  refine wpDet_take ?vA13 (Bl.stays w1) (fun W h => hA.below h) (i := 13) rfl (by kernel_rfl) (by kernel_rfl) (by kernel_rfl) (by kernel_rfl) (fun _ _ _ h => h) (Gives.value (by rfl) ?yA13) ?rA13
  case yA13 => (intro w' hSw; go_simp; try with_reducible rfl)
  (try simp only [Act.put, List.getElem_toArray, List.getElem_cons_zero, List.getElem_cons_succ, List.setIfInBounds_toArray, List.set_cons_zero, List.set_cons_succ])
  refine wpDet_take ?vA14 (Bl.stays w1) (fun W h => hA.below h) (i := 14) rfl (by kernel_rfl) (by kernel_rfl) (by kernel_rfl) (by kernel_rfl) (fun _ _ _ h => h) (Gives.value (by rfl) ?yA14) ?rA14
  case yA14 => (intro w' hSw; obtain ⟨z0, z1, z2, z3⟩ := hSw.four; go_simp; try with_reducible rfl)
  (try simp only [Act.put, List.getElem_toArray, List.getElem_cons_zero, List.getElem_cons_succ, List.setIfInBounds_toArray, List.set_cons_zero, List.set_cons_succ])
  refine wpDet_ready (rs := [5]) (by kernel_rfl) (by simp) (AllDet.cons rfl (fun V hV K hK => ?_) AllDet.nil)
  rw [if_pos (by rfl)]
  have hCv := cloneC_any r bc H V (HL.out.below hV).row hp hl
  refine wp_enterE 54 #[.slice (some ⟨r, 0, none⟩) H.length bc] (by first | (go_simp; done) | (go_simp; rfl)) (fun v W => W.ownsRow V.heap.size 42 2 v H.length (cellsH H) ∧ Below V.heap.size V W) (hCv.mono fun e' w' hh => by obtain ⟨v, h1, h2, h3⟩ := hh; exact ⟨v, h1, h2, h3⟩) ?_
  rintro v7 V7 ⟨hown, hb7⟩
  obtain ⟨rc, cap, cur, rfl, hrc0, hcur⟩ : ∃ rc cap cur, v7 = .slice (some ⟨rc, 0, none⟩) H.length cap ∧ V.heap.size ≤ rc ∧ V7.heap[rc]? = some (.cells cur 42 (0, 0)) := by
    rcases hown.2 with ⟨_, h2⟩ | ⟨g', cap, cur, hv, hg, hh, _⟩
    · omega
    · exact ⟨g', cap, cur, hv, hg, hh⟩
  have hrc1 : w1.heap.size ≤ rc := Nat.le_trans (Bl.out hV).size hrc0
  refine hK.out (fun W => Bl w1 W ∧ W.ownsRow 0 42 2 (.slice (some ⟨rc, 0, none⟩) H.length cap) H.length (cellsH H) ∧ rc < W.heap.size) _ _ (fun W W' h hb => ⟨Bl.stays w1 W W' h.1 hb, ownsRow_below h.2.1 hb, Nat.lt_of_lt_of_le h.2.2 hb.size⟩) (fun _ W h => hA.below h.1) ⟨Bl.stays w1 V V7 hV hb7, ownsRow_lower hown (Nat.zero_le _), (Array.getElem?_eq_some_iff.1 hcur).1⟩ ?_
  clear hK K hCv hb7 hV hown hcur hrc0
  (try simp only [Act.put, List.getElem_toArray, List.getElem_cons_zero, List.getElem_cons_succ, List.setIfInBounds_toArray, List.set_cons_zero, List.set_cons_succ])
  refine wpDet_take ?vB6 (fun W W' h hb => ⟨Bl.stays w1 W W' h.1 hb, ownsRow_below h.2.1 hb, Nat.lt_of_lt_of_le h.2.2 hb.size⟩) (fun W h => hA.below h.1) (i := 6) rfl (by kernel_rfl) (by kernel_rfl) (by kernel_rfl) (by kernel_rfl) (fun _ _ _ h => h) (Gives.value (by rfl) ?yB6) ?rB6
  case yB6 => (intro w' hSw; go_simp; try with_reducible rfl)
  (try simp only [Act.put, List.getElem_toArray, List.getElem_cons_zero, List.getElem_cons_succ, List.setIfInBounds_toArray, List.set_cons_zero, List.set_cons_succ])
  refine wpDet_take ?vB15 (fun W W' h hb => ⟨Bl.stays w1 W W' h.1 hb, ownsRow_below h.2.1 hb, Nat.lt_of_lt_of_le h.2.2 hb.size⟩) (fun W h => hA.below h.1) (i := 15) rfl (by kernel_rfl) (by kernel_rfl) (by kernel_rfl) (by kernel_rfl) (fun _ _ _ h => h) (Gives.value (by rfl) ?yB15) ?rB15
  case yB15 => (intro w' hSw; go_simp; try with_reducible rfl)
  (try simp only [Act.put, List.getElem_toArray, List.getElem_cons_zero, List.getElem_cons_succ, List.setIfInBounds_toArray, List.set_cons_zero, List.set_cons_succ])
  refine wpDet_ready (rs := [16]) (by kernel_rfl) (by simp) (AllDet.cons rfl (fun V hV K hK => ?_) AllDet.nil)
  rw [if_pos (by rfl)]
  refine wp_value (.pointer (some ⟨V.heap.size, 0, none⟩)) (V.alloc (.cells #[.slice (some ⟨rc, 0, none⟩) H.length cap, .int .i64 e, .slice p n c, .int .i64 at_] 82)) (by first | (go_simp; done) | (go_simp; rfl)) ?_
  have hba := below_alloc V (.cells #[.slice (some ⟨rc, 0, none⟩) H.length cap, .int .i64 e, .slice p n c, .int .i64 at_] 82)
  have hgc1 : w1.heap.size ≤ V.heap.size := (Bl.out hV.1).size
  have hne : rc ≠ V.heap.size := Nat.ne_of_lt hV.2.2
  obtain ⟨gc, hgce⟩ : ∃ z, z = V.heap.size := ⟨_, rfl⟩
  rw [← hgce] at hgc1 hne ⊢
  refine hK.out (fun W => Bl w1 W ∧ W.ownsRow 0 42 2 (.slice (some ⟨rc, 0, none⟩) H.length cap) H.length (cellsH H) ∧ At 82 W gc #[.slice (some ⟨rc, 0, none⟩) H.length cap, .int .i64 e, .slice p n c, .int .i64 at_]) _ _ (fun W W' h hb => ⟨Bl.stays w1 W W' h.1 hb, ownsRow_below h.2.1 hb, h.2.2.below hb⟩) (fun _ W h => hA.below h.1) ⟨Bl.stays w1 V _ hV.1 hba, ownsRow_below hV.2.1 hba, by rw [hgce]; exact At.new 82 V #[.slice (some ⟨rc, 0, none⟩) H.length cap, .int .i64 e, .slice p n c, .int .i64 at_]⟩ ?_
  clear hK K hV hba hgce
  (try simp only [Act.put, List.getElem_toArray, List.getElem_cons_zero, List.getElem_cons_succ, List.setIfInBounds_toArray, List.set_cons_zero, List.set_cons_succ])
  refine wpDet_take ?vC17 (fun W W' h hb => ⟨Bl.stays w1 W W' h.1 hb, ownsRow_below h.2.1 hb, h.2.2.below hb⟩) (fun W h => hA.below h.1) (i := 17) rfl (by kernel_rfl) (by kernel_rfl) (by kernel_rfl) (by kernel_rfl) (fun _ _ _ h => h) (Gives.value (by rfl) ?yC17) ?rC17
  case yC17 => (intro w' hSw; go_simp; try with_reducible rfl)
  (try simp only [Act.put, List.getElem_toArray, List.getElem_cons_zero, List.getElem_cons_succ, List.setIfInBounds_toArray, List.set_cons_zero, List.set_cons_succ])
  refine wpDet_done (by kernel_rfl) (fun Wz hV => ?_) _
  obtain ⟨hBz, hrow, hAc⟩ := hV
  have hx2 : ∀ y : HE, y.rd w1 g r → y.rd Wz gc rc := fun y hy => ⟨hy.1.below hBz, fun a ha h0 => by have := rd_lt hy.1 ha h0; exact ⟨by omega, by omega⟩⟩
  have hLc : LB Wz gc rc cap ⟨e, p, n, c, ms⟩ at_ H := ⟨hAc, hrow, hne, hx2 _ HL.out.now, fun y hy => hx2 y (HL.out.old y hy), hp⟩
  have hgc : w1.heap.size ≤ gc := hgc1
  have hrc : w1.heap.size ≤ rc := hrc1
  obtain ⟨bc', hbc⟩ : ∃ z, z = cap := ⟨_, rfl⟩
  rw [← hbc] at hLc
  clear hA hx2 hrow hAc hbc
  go_wp2_with fail
  go_ret
  exact ⟨gc, rc, bc', rfl, hLc, hgc, hrc, hBz⟩

end Go.Proofs.Ytcnkpgbmegppbaa.M

namespace Go.Proofs.Ytcnkpgbmegppbaa.M
open Go.ChangeShapes Go.WideShapes Go.ChangeAt Go.RowKit

/-- A call's cells. -/
def Dj.cs (x : Dj) : List Value := [.int .i64 x.k, .int .i64 x.n, .int .i64 x.s, .int .i64 x.e, .slice x.bq x.bl x.bc, .bool x.raw, .int .i64 x.by_, .int .i64 x.off]

def cellsJ (ls : List Dj) : List Value := ls.flatMap Dj.cs

theorem cellsJ_cons (x : Dj) (ls : List Dj) : cellsJ (x :: ls) = x.cs ++ cellsJ ls := by simp [cellsJ]

theorem cellsJ_app (a b : List Dj) : cellsJ (a ++ b) = cellsJ a ++ cellsJ b := by simp [cellsJ]

theorem cellsJ_len : ∀ ls : List Dj, (cellsJ ls).length = ls.length * 8
  | [] => rfl
  | x :: ls => by
    rw [cellsJ_cons, List.length_append, cellsJ_len ls, List.length_cons]
    show 8 + ls.length * 8 = _
    omega

theorem cellsJ_one : ∀ ls : List Dj, ∀ u ∈ cellsJ ls, u.oneCell' = true
  | [], u, h => by cases h
  | x :: ls, u, h => by
    rw [cellsJ_cons] at h
    rcases List.mem_append.1 h with h | h
    · simp only [Dj.cs, List.mem_cons, List.not_mem_nil, or_false] at h
      rcases h with rfl | rfl | rfl | rfl | rfl | rfl | rfl | rfl <;> rfl
    · exact cellsJ_one ls u h

theorem cellsJ_at {w : World} {b : Nat} : ∀ (ls : List Dj) (o : Nat), (∀ i, i < ls.length → (ls.getD i .z0).at w b (o + i * 8)) → ∀ j u, (cellsJ ls)[j]? = some u → w.cell? ⟨b, o + j, none⟩ = some u
  | [], _, _, j, u, hu => by simp [cellsJ] at hu
  | x :: ls, o, h, j, u, hu => by
    rw [cellsJ_cons] at hu
    by_cases hj : j < 8
    · have h0 := h 0 (Nat.zero_lt_succ _)
      rw [List.getElem?_append_left (by exact hj)] at hu
      simp only [Nat.zero_mul, Nat.add_zero] at h0
      have h1 : x.at w b o := h0
      match j, hj, hu with
      | 0, _, hu => cases hu; exact h1.c0
      | 1, _, hu => cases hu; exact h1.c1
      | 2, _, hu => cases hu; exact h1.c2
      | 3, _, hu => cases hu; exact h1.c3
      | 4, _, hu => cases hu; exact h1.c4
      | 5, _, hu => cases hu; exact h1.c5
      | 6, _, hu => cases hu; exact h1.c6
      | 7, _, hu => cases hu; exact h1.c7
    · have h8 : x.cs.length = 8 := rfl
      rw [List.getElem?_append_right (by omega), h8] at hu
      have := cellsJ_at ls (o + 8) (fun i hi => by
        have := h (i + 1) (by rw [List.length_cons]; omega)
        rw [show o + (i + 1) * 8 = o + 8 + i * 8 by omega] at this
        exact this) (j - 8) u hu
      rw [show o + 8 + (j - 8) = o + j by omega] at this
      exact this

theorem cellsJ_of {w : World} {b : Nat} : ∀ (ls : List Dj) (o : Nat), (∀ j u, (cellsJ ls)[j]? = some u → w.cell? ⟨b, o + j, none⟩ = some u) → ∀ i, i < ls.length → (ls.getD i .z0).at w b (o + i * 8)
  | [], _, _, i, hi => by simp at hi
  | x :: ls, o, h, i, hi => by
    rw [cellsJ_cons] at h
    match i with
    | 0 =>
      have hl : ∀ j u, x.cs[j]? = some u → w.cell? ⟨b, o + j, none⟩ = some u := fun j u hu => h j u (by rw [List.getElem?_append_left (List.getElem?_eq_some_iff.1 hu).1]; exact hu)
      have : x.at w b (o + 0 * 8) := ⟨hl 0 _ rfl, hl 1 _ rfl, hl 2 _ rfl, hl 3 _ rfl, hl 4 _ rfl, hl 5 _ rfl, hl 6 _ rfl, hl 7 _ rfl⟩
      exact this
    | i + 1 =>
      have := cellsJ_of ls (o + 8) (fun j u hu => by
        have := h (8 + j) u (by rw [List.getElem?_append_right (by show 8 ≤ 8 + j; omega)]; rw [show 8 + j - x.cs.length = j by show 8 + j - 8 = j; omega]; exact hu)
        rw [show o + (8 + j) = o + 8 + j by omega] at this
        exact this) i (by rw [List.length_cons] at hi; omega)
      rw [show o + 8 + i * 8 = o + (i + 1) * 8 by omega] at this
      exact this

theorem infoD : (Try.prog.info? 57).map (fun i => (i.zero, i.size, i.bytes)) = some (some (.agg #[.int .i64 0, .int .i64 0, .int .i64 0, .int .i64 0, .slice none 0 0, .bool false, .int .i64 0, .int .i64 0]), 8, 80) := by kernel_rfl

theorem RdJ.cl {w : World} {b o m d : Nat} {ls : List Dj} (h : RdJ w (some ⟨b, o, none⟩) m d ls) (h0 : 0 < m) : ∀ j u, (cellsJ ls)[j]? = some u → w.cell? ((⟨b, o, none⟩ : Addr).add j) = some u := by
  obtain ⟨b', o', e, hc⟩ := h.cells h0
  injection e with e
  injection e with e1 e2
  subst e1 e2
  intro j u hu
  rw [Addr.add_lit]
  exact cellsJ_at ls o (fun i hi => hc i (by rw [← h.len]; exact hi)) j u hu

/-- A slice of calls that is one's own can be read. -/
theorem RdJ.of_owns {w : World} {B : Nat} {v : Value} {n : Nat} {ls : List Dj} (h : w.ownsRow B 57 8 v n (cellsJ ls)) (hl : ls.length = n) (hr : ∀ j, j < n → (ls.getD j .z0).rd w) : ∃ p c, v = .slice p n c ∧ RdJ w p n c ls := by
  rcases h.2 with ⟨rfl, rfl⟩ | ⟨g, cap, cur, rfl, hg, hh, h1⟩
  · exact ⟨none, 0, rfl, hl, fun h => absurd h (Nat.lt_irrefl _), hr⟩
  · have hcl := World.ownsRow.cells h rfl
    exact ⟨_, cap, rfl, hl, fun _ => ⟨g, 0, rfl, fun i hi => cellsJ_of ls 0 (fun j u hu => by have := hcl j u hu; rw [Addr.add_lit] at this; exact this) i (by rw [hl]; exact hi)⟩, hr⟩

theorem wpList_app0 {P : Program} (w : World) {ops : Array Oper} {rest : List Oper} {o : Oper} {a : Act} {Q : Exit → Act → World → Prop} (hgd : o.guard = none) (s x : Operand) (t : TypeId)
    (hop : o.op = .call { callee := .builtin .append, args := #[s, x], argTypes := #[t, t] })
    (e : TypeId) (i : TypeInfo) (ht : P.underlying t = some (.slice e)) (hi : P.info? e = some i)
    (p : Option Addr) (n c : Nat) (hs : a.eval s = .slice p n c) (hc : n ≤ c) (q : Option Addr) (d : Nat) (hx : a.eval x = .slice q 0 d)
    (h : wpList P ops Q rest (a.put o.dst (.slice p n c)) w) : wpList P ops Q (o :: rest) a w := by
  refine wpList_plain hgd fun K hK => ?_
  have hrun := run_app_zero (P := P) (w := w) t o.type e i ht hi p q n c d hc
  unfold Oper.wp
  simp [execOp, hop, resolve, invoke, builtin, hs, hx, hrun, Result.andThen]
  exact hK _ _ h

set_option maxRecDepth 20000 in
set_option maxHeartbeats 1000000 in
theorem cloneJ_any (q : Option Addr) (m d : Nat) (ls : List Dj) (w : World) (h : RdJ w q m d ls) (hm : m ≤ 1000) :
    Calls Try.prog 31 #[.slice q m d] w fun e w' => ∃ v, e = .returned v ∧ w'.ownsRow w.heap.size 57 8 v m (cellsJ ls) ∧ Below w.heap.size w w' := by
  have q22 : ∀ (w : World) (a : Option Addr) (n c n' c' : Nat), (binOp .eql 35 (.slice a n c) (.slice none n' c')).run Try.prog w = .ok (.bool a.isNone) w := fun w a n c n' c' => Lib.run_eql_slice_nil w _ _ a n c n' c' Try.underlying35
  obtain ⟨i0, hi0, hz0, hz1, hz2⟩ := info_parts infoD
  have hlen : (cellsJ ls).length = m * 8 := by rw [cellsJ_len, h.len]
  cases q with
  | none =>
    have hn0 : m = 0 := by
      rcases Nat.eq_zero_or_pos m with e | e
      · exact e
      · obtain ⟨b, o, hx, _⟩ := h.cells e
        cases hx
    subst hn0
    have hw : w.ownsRow w.heap.size 57 8 (.slice none 0 0) 0 (cellsJ ls) := ⟨hlen, Or.inl ⟨rfl, rfl⟩⟩
    clear h hlen
    go_enter Try.func31, Try.ntmps31
    go_wp2_with fail
    go_ret
    exact ⟨_, rfl, hw, Below.refl _ _⟩
  | some ad =>
    have hba := below_alloc w (.cells #[] 57)
    rcases Nat.eq_zero_or_pos m with e | e
    · subst e
      have hw : (w.alloc (.cells #[] 57)).ownsRow w.heap.size 57 8 (.slice (some ⟨w.heap.size, 0, none⟩) 0 0) 0 (cellsJ ls) := ⟨hlen, Or.inr ⟨w.heap.size, 0, #[], rfl, Nat.le_refl _, heap_alloc_new _ _, Nat.le_refl _, by unfold maxLen; omega, rfl, by rw [List.length_eq_zero_iff.1 (hlen.trans (Nat.zero_mul _))]; rfl⟩⟩
      clear h hlen
      go_enter Try.func31, Try.ntmps31
      go_wp2_with (refine wpList_app0 _ rfl (.tmp 5) (.tmp 6) 35 rfl 57 i0 Try.underlying35 hi0 _ _ _ rfl (Nat.le_refl _) _ _ rfl ?_)
      go_wp2_with fail
      go_ret
      exact ⟨_, rfl, hw, hba⟩
    · obtain ⟨b, o, hx, _⟩ := h.cells e
      cases hx
      have hcl := (h.below hba).cl e
      clear h
      go_enter Try.func31, Try.ntmps31
      go_wp2_with (refine wpList_appG _ rfl (.tmp 5) (.tmp 6) 35 rfl 57 i0 _ 8 80 Try.underlying35 hi0 hz0 hz1 hz2 rfl (by decide) _ rfl ⟨b, o, none⟩ m d (cellsJ ls) rfl hlen hcl e ?c1 ?c2 ?_)
      case c1 => omega
      case c2 => unfold maxLen; omega
      intro v w' h1 h2
      go_wp2_with fail
      go_ret
      exact ⟨v, rfl, ownsRow_lower h1 (by simp), hba.trans (h2.mono (by simp))⟩

/-- Calls behind one's own copy of others. -/
theorem wpList_appJ (w : World) {ops : Array Oper} {rest : List Oper} {o : Oper} {a : Act} {Q : Exit → Act → World → Prop} (hgd : o.guard = none) (s x : Operand)
    (hop : o.op = .call { callee := .builtin .append, args := #[s, x], argTypes := #[35, 35] })
    (B : Nat) (v : Value) (n : Nat) (ls : List Dj) (hs : a.eval s = v) (hown : w.ownsRow B 57 8 v n (cellsJ ls)) (q : Option Addr) (m d : Nat) (ms : List Dj) (hx : a.eval x = .slice q m d) (hr : RdJ w q m d ms) (hB : B ≤ w.heap.size) (hn : n ≤ 1000) (hm : m ≤ 1000)
    (h : ∀ v' w', w'.ownsRow B 57 8 v' (n + m) (cellsJ (ls ++ ms)) → Below B w w' → wpList Try.prog ops Q rest (a.put o.dst v') w') : wpList Try.prog ops Q (o :: rest) a w := by
  obtain ⟨i0, hi0, hz0, hz1, hz2⟩ := info_parts infoD
  rcases Nat.eq_zero_or_pos m with e | e
  · subst e
    have hms : ms = [] := List.length_eq_zero_iff.1 hr.len
    subst hms
    rw [List.append_nil] at h
    rcases hown.2 with ⟨hv, h0⟩ | ⟨g, cap, cur, hv, hg, hh, hc, _⟩
    · subst hv
      exact wpList_app0 w hgd s x 35 hop 57 i0 Try.underlying35 hi0 _ _ _ hs (Nat.le_refl _) _ _ hx (h _ _ hown (Below.refl _ _))
    · subst hv
      exact wpList_app0 w hgd s x 35 hop 57 i0 Try.underlying35 hi0 _ _ _ hs hc _ _ hx (h _ _ hown (Below.refl _ _))
  · obtain ⟨b, o', hx', _⟩ := hr.cells e
    subst hx'
    refine wpList_append_own w hgd s x 35 hop B 57 i0 _ 8 80 Try.underlying35 hi0 hz0 hz1 hz2 rfl (by decide) v n (cellsJ ls) hs hown ⟨b, o', none⟩ m d (cellsJ ms) hx (by rw [cellsJ_len, hr.len]) (hr.cl e) (cellsJ_one ms) (by unfold maxLen; omega) (by omega) hB ?_
    intro v' w' h1 h2 _
    rw [← cellsJ_app] at h1
    refine h v' w' h1 ((Below.refl _ _).grown h2 hB fun g hg => ?_)
    rcases hown.2 with ⟨hv, _⟩ | ⟨g', cap, cur, hv, hg', _⟩
    · rw [hv] at hg; cases hg
    · rw [hv] at hg; injection hg with hg; rw [← hg]; exact hg'

theorem getD_left {a b : List Dj} {k : Nat} (h : k < a.length) : (a ++ b).getD k .z0 = a.getD k .z0 := by
  rw [List.getD_eq_getElem?_getD, List.getD_eq_getElem?_getD, List.getElem?_append_left h]

theorem getD_right {a b : List Dj} {k : Nat} : (a ++ b).getD (a.length + k) .z0 = b.getD k .z0 := by
  rw [List.getD_eq_getElem?_getD, List.getD_eq_getElem?_getD, List.getElem?_append_right (by omega), Nat.add_sub_cancel_left]

theorem playJ_left (s : PL) (a b : List Dj) : ∀ k, k ≤ a.length → playJ s (a ++ b) k = playJ s a k
  | 0, _ => rfl
  | k + 1, h => by
    show stepJ (playJ s (a ++ b) k) ((a ++ b).getD k .z0) = stepJ (playJ s a k) (a.getD k .z0)
    rw [playJ_left s a b k (by omega), getD_left (by omega)]

/-- Calls one list behind another. -/
theorem playJ_app (s : PL) (a b : List Dj) : ∀ k, playJ s (a ++ b) (a.length + k) = playJ (playJ s a a.length) b k
  | 0 => playJ_left s a b a.length (Nat.le_refl _)
  | k + 1 => by
    show stepJ (playJ s (a ++ b) (a.length + k)) ((a ++ b).getD (a.length + k) .z0) = stepJ (playJ (playJ s a a.length) b k) (b.getD k .z0)
    rw [playJ_app s a b k, getD_right]

end Go.Proofs.Ytcnkpgbmegppbaa.M

namespace Go.Proofs.Ytcnkpgbmegppbaa.M
open Go.ChangeShapes Go.WideShapes Go.ChangeAt Go.RowKit

theorem small_app {a b : List Dj} (h : Small a) (k : Small b) : Small (a ++ b) := by
  intro j hj
  rcases Nat.lt_or_ge j a.length with h1 | h1
  · rw [getD_left h1]; exact h j h1
  · obtain ⟨i, rfl⟩ : ∃ i, j = a.length + i := ⟨j - a.length, by omega⟩
    rw [getD_right]
    exact k i (by rw [List.length_append] at hj; omega)

theorem rd_app {w : World} {a b : List Dj} (h : ∀ j, j < a.length → (a.getD j .z0).rd w) (k : ∀ j, j < b.length → (b.getD j .z0).rd w) : ∀ j, j < (a ++ b).length → ((a ++ b).getD j .z0).rd w := by
  intro j hj
  rcases Nat.lt_or_ge j a.length with h1 | h1
  · rw [getD_left h1]; exact h j h1
  · obtain ⟨i, rfl⟩ : ∃ i, j = a.length + i := ⟨j - a.length, by omega⟩
    rw [getD_right]
    exact k i (by rw [List.length_append] at hj; omega)

theorem same_eq (e : Int) (ms : List Mb) : (e == e && eqMs ms ms) = true := by simp [eqMs_self]

set_option linter.unusedSimpArgs false in
set_option maxRecDepth 20000 in
set_option maxHeartbeats 8000000 in
theorem walk_LedgerAlike (w : World) (p : Option Addr) (n c : Nat) (ms : List Mb) (hm : RdM w p n c ms) (q : Option Addr) (m d : Nat) (ls : List Dj) (h : RdJ w q m d ls) (q2 : Option Addr) (m2 d2 : Nat) (zs : List Dj) (hz : RdJ w q2 m2 d2 zs) :
    Calls Try.prog 6 #[.slice p n c, .slice q m d, .slice q2 m2 d2] w fun r w' => r = .returned (.bool true) ∧ Below w.heap.size w w' := by
  have hW := fun W => awake_any W
  by_cases hnm : 60 < n
  · have hni : (60 : Int) < (n : Int) := by omega
    have HB := Below.refl w.heap.size w
    clear hm h hz
    go_enter Try.func6, Try.ntmps6
    go_wp2_with fail
    refine (hW _).mono ?_
    rintro o wz ⟨rfl, hbz⟩
    go_wp2_with fail
    go_ret
    exact ⟨rfl, HB.trans (hbz.mono HB.size)⟩
  have hni : ¬ (60 : Int) < (n : Int) := by omega
  have hdn : decide ((60 : Int) < (n : Int)) = false := decide_eq_false hni
  have h1b := below_alloc w (.cells #[.slice q m d, .slice q2 m2 d2] 35)
  have hA1 := At.new 35 w #[.slice q m d, .slice q2 m2 d2]
  have hl1 := h.below h1b
  have hz1 := hz.below h1b
  have hm1 := hm.below h1b
  have hJJ : RdJJ (w.alloc (.cells #[.slice q m d, .slice q2 m2 d2] 35)) (some ⟨w.heap.size, 0, none⟩) 2 [ls, zs] := RdJJ.two (hA1.cell 0) (hA1.cell 1) hl1 hz1
  have gS := short_any (w.alloc (.cells #[.slice q m d, .slice q2 m2 d2] 35)) (some ⟨w.heap.size, 0, none⟩) 2 2 [ls, zs] hJJ (by decide)
  obtain ⟨R, HF, hR⟩ := first_is n ms hm.len (by omega)
  have HM : Hid (RdM w p n c ms) := hm
  have HLs : Hid (RdJ w q m d ls) := h
  have HZ : Hid (RdJ w q2 m2 d2 zs) := hz
  clear hm h hz hA1 hJJ
  go_enter Try.func6, Try.ntmps6
  go_wp2_with fail
  refine gS.mono ?_
  rintro o w3 ⟨⟨bb, rfl, hbb⟩, hb3⟩
  have HB := h1b.trans (hb3.mono h1b.size)
  have hl3 := hl1.below hb3
  have hz3 := hz1.below hb3
  have hm3 := hm1.below hb3
  clear gS hb3 hl1 hz1 hm1 h1b
  cases bb with
  | false =>
    go_wp2_with fail
    refine (hW _).mono ?_
    rintro o wz ⟨rfl, hbz⟩
    go_wp2_with fail
    go_ret
    exact ⟨rfl, HB.trans (hbz.mono HB.size)⟩
  | true =>
    have hsh := hbb rfl
    have hs1 := short_of hsh (j := 0) (by simp)
    have hs2 := short_of hsh (j := 1) (by simp)
    have hll : m ≤ 150 := by rw [← hl3.len]; exact hs1.1
    have hl2l : m2 ≤ 150 := by rw [← hz3.len]; exact hs2.1
    have hcnt : m + m2 ≤ 150 := by have h5 := hsh.2; have e1 := hl3.len; have e2 := hz3.len; simp [cntN] at h5; omega
    have hsm : Small ls := hs1.2
    have hsm2 : Small zs := hs2.2
    clear hbb hsh hs1 hs2
    rcases hR with rfl | ⟨M, rfl, hk, hMl⟩
    · have g1 := New_bad p n c ms w3 hm3 HF
      go_wp2_with fail
      refine g1.mono ?_
      rintro o w4 ⟨rfl, hb4⟩
      replace HB := HB.trans (hb4.mono HB.size)
      clear g1
      go_wp2_with fail
      refine (hW _).mono ?_
      rintro o wz ⟨rfl, hbz⟩
      go_wp2_with fail
      go_ret
      exact ⟨rfl, HB.trans (hbz.mono HB.size)⟩
    clear hMl
    have HK1 : Hid (chk 1 M = true) := hk
    have g1 := New_ok p n c ms w3 hm3 M HF
    have HFi : Hid (FirstIs n ms (.ok (1, M))) := HF
    clear HF
    go_wp2_with fail
    refine g1.mono ?_
    rintro o w4 ⟨v, rfl, g0, r0, rfl, _, _, _, hb4⟩
    have HB4 := HB.trans (hb4.mono HB.size)
    have g2 := made_lawF p n c ms w4 (hm3.below hb4) M HFi.out hk q m d ls (hl3.below hb4) hll hsm
    clear g1 hb4 hl3 hm3 hz3 HB
    go_wp2_with fail
    refine g2.mono ?_
    rintro o w5 ⟨v, rfl, g, r, rfl, hL5, hg, hr, hb5⟩
    have HB5 := HB4.trans (hb5.mono HB4.size)
    have hgB : w.heap.size ≤ g := Nat.le_trans HB4.size hg
    have hrB : w.heap.size ≤ r := Nat.le_trans HB4.size hr
    have hlt5 := hL5.lp.lt
    have g3 := made_lawF p n c ms w5 (HM.out.below HB5) M HFi.out hk q m d ls (HLs.out.below HB5) hll hsm
    clear g2 hb5 HB4 hg hr
    go_wp2_with fail
    refine g3.mono ?_
    rintro o w6 ⟨v, rfl, gb, rb, rfl, hL6b, hgb, hrb, hb6⟩
    have HB6 := HB5.trans (hb6.mono HB5.size)
    have hTb6 : Tw w6 g r gb rb (playJ ⟨1, M, 0, [(1, M)]⟩ ls m) := hL6b.tw hlt5.1 hlt5.2 hgb hrb
    obtain ⟨bc6, x6, H6, hLB6, hx6, hH6, _⟩ := hL5.below hb6
    have hok : (playJ ⟨1, M, 0, [(1, M)]⟩ ls m).ok := playJ_ok (PL.first_ok hk) ls m
    have HApp : Hid (playJ ⟨1, M, 0, [(1, M)]⟩ (ls ++ zs) (m + m2) = playJ (playJ ⟨1, M, 0, [(1, M)]⟩ ls m) zs m2) := by
      have := playJ_app ⟨1, M, 0, [(1, M)]⟩ ls zs m2
      rw [HLs.out.len] at this
      exact this
    obtain ⟨S, HS⟩ : ∃ S, Hid (playJ ⟨1, M, 0, [(1, M)]⟩ ls m = S) := ⟨_, rfl⟩
    rw [HS.out] at hTb6 hLB6 hx6 hH6 hok HApp
    have hHl : H6.length ≤ 1099511627776 := by
      have h1 := hok.len
      have h2 := chk_parts hok.chk
      have h3 := congrArg List.length hH6
      rw [List.length_map] at h3
      omega
    have g4 := CloneL_any g r bc6 x6 S.at_ H6 w6 hLB6 hHl
    clear g3 hb6 HB5 hL5 hL6b hgb hrb HS
    go_wp2_with fail
    refine g4.mono ?_
    rintro o w7 ⟨gc, rc, bc7, rfl, hLc7, hgc, hrc, hb7⟩
    have HB7 := HB6.trans (hb7.mono HB6.size)
    have hTb7 := hTb6.below hb7
    have hlt6 : g < w6.heap.size ∧ r < w6.heap.size := ⟨hLB6.blk.lt, hLB6.lr⟩
    have hTc7 : Tw w7 g r gc rc S := ⟨bc7, x6, H6, hLc7, hx6, hH6, ⟨by omega, by omega⟩, ⟨by omega, by omega⟩, fun y hy a ha h0 => by
      rcases List.mem_cons.1 hy with rfl | hy
      · exact hLB6.now.2 a ha h0
      · exact (hLB6.old y hy).2 a ha h0⟩
    have hL7 : LP w7 g r S := ⟨bc6, x6, H6, hLB6.below hb7, hx6, hH6⟩
    clear g4 hb7 HB6 hTb6 hLB6 hx6 hH6 hHl hLc7 hgc hrc hlt6 hlt5
    have HSok : Hid S.ok := hok
    clear hok
    go_wp2_with fail
    obtain ⟨B, hB⟩ : ∃ B, w.heap.size = B := ⟨_, rfl⟩
    have HBB : Hid (w.heap.size = B) := hB
    rw [hB] at hgB hrB HB7
    clear hB
    go_loopw [44] (fun i wr => ∃ (k r' : Nat), k ≤ m2 ∧ i = .int .i64 k ∧ LP wr g r' (playJ S zs k) ∧ Tw wr g r' gb rb S ∧ Tw wr g r' gc rc S ∧ B ≤ r' ∧ Below B w wr) (fun i _ => m2 - (intOf i).toNat)
    case atStart => exact ⟨0, r, Nat.zero_le _, rfl, hL7, hTb7, hTc7, hrB, HB7⟩
    case round =>
      clear hL7 hTb7 hTc7 hrB HB7
      obtain ⟨k, r, hk, rfl, hL, hTb, hTc, hr, hb⟩ := hrel
      have hg := hgB
      by_cases hkn : k < m2
      · have hki : (k : Int) < (m2 : Int) := by omega
        have hs := playJ_ok HSok.out zs k
        have HS : Hid (playJ S zs (k + 1) = stepJ (playJ S zs k) (zs.getD k .z0)) := rfl
        have hl6 := (chk_parts hs.chk).2.2.2
        have hse : 0 ≤ (playJ S zs k).e ∧ (playJ S zs k).e ≤ 1099511627776 := by have := chk_parts hs.chk; omega
        generalize playJ S zs k = s at *
        obtain ⟨b, o, rfl, hc⟩ := HZ.out.cells (by omega)
        have hck := hc k hkn
        have hblt := World.block_lt_of_cell? _ _ hck.c0
        have hck2 := hck.below hb (by rw [← HBB.out]; exact hblt)
        have hrd0 := (HZ.out.rd k hkn).below (by rw [HBB.out]; exact hb)
        have hbl : (zs.getD k .z0).bl ≤ 1099511627776 := by have := hsm2 k (by rw [HZ.out.len]; exact hkn); omega
        clear hc hck 
        generalize zs.getD k .z0 = z at *
        obtain ⟨xk, xn, xs, xe, bq, bl, bc, raw, by_, off, xb⟩ := z
        obtain ⟨c0, c1, c2, c3, c4, c5, c6, c7⟩ := hck2
        dsimp only at *
        have hba := below_alloc wr (.cells #[.int .i64 xk, .int .i64 xn, .int .i64 xs, .int .i64 xe, .slice bq bl bc, .bool raw, .int .i64 by_, .int .i64 off] 57)
        have hA5 := At.new 57 wr #[.int .i64 xk, .int .i64 xn, .int .i64 xs, .int .i64 xe, .slice bq bl bc, .bool raw, .int .i64 by_, .int .i64 off]
        have hL5 := hL.below hba
        have hTb5 := hTb.below hba
        have hTc5 := hTc.below hba
        have hrd5 := hrd0.below hba
        have hgs : B ≤ wr.heap.size := by rw [← HBB.out]; exact (show Below w.heap.size w wr by rw [HBB.out]; exact hb).size
        have hxg : wr.heap.size ≠ g := Nat.ne_of_gt hL.lt.1
        have hxr : wr.heap.size ≠ r := Nat.ne_of_gt hL.lt.2
        have hB5 : B ≤ (wr.alloc (.cells #[.int .i64 xk, .int .i64 xn, .int .i64 xs, .int .i64 xe, .slice bq bl bc, .bool raw, .int .i64 by_, .int .i64 off] 57)).heap.size := Nat.le_trans hgs hba.size
        have hb5 : Below B w (wr.alloc (.cells #[.int .i64 xk, .int .i64 xn, .int .i64 xs, .int .i64 xe, .slice bq bl bc, .bool raw, .int .i64 by_, .int .i64 off] 57)) := hb.trans (hba.mono hgs)
        clear hL hTb hTc hrd0 hb hba hgs
        go_wp2_with fail
        generalize (wr.alloc (.cells #[.int .i64 xk, .int .i64 xn, .int .i64 xs, .int .i64 xe, .slice bq bl bc, .bool raw, .int .i64 by_, .int .i64 off] 57)) = w5 at *
        generalize wr.heap.size = x at *
        have hS5 : Bl w5 w5.drew := (Below.refl _ _).drew
        refine wp_region_det [0, 1, 2, 5, 6, 8] (fun W => At 57 W x #[.int .i64 xk, .int .i64 xn, .int .i64 xs, .int .i64 xe, .slice bq bl bc, .bool raw, .int .i64 by_, .int .i64 off]) (Bl w5) (by kernel_rfl) hS5 ?_
        refine wpDet_take ?vM0 (Bl.stays w5) (fun W h => hA5.below h) (i := 0) rfl (by kernel_rfl) (by kernel_rfl) (by kernel_rfl) (by kernel_rfl) (fun _ _ _ h => h) (Gives.value (by rfl) ?yM0) ?rM0
        case yM0 => (intro w' hSw; go_simp; try with_reducible rfl)
        (try simp only [Act.put, List.getElem_toArray, List.getElem_cons_zero, List.getElem_cons_succ, List.setIfInBounds_toArray, List.set_cons_zero, List.set_cons_succ])
        refine wpDet_take _ (Bl.stays w5) (fun W h => hA5.below h) (i := 1) rfl (by kernel_rfl) (by kernel_rfl) (by kernel_rfl) (by kernel_rfl) (fun _ _ _ h => h) (Gives.of_yields (yieldsIf_load_mid (by rfl) _ _ rfl _ _ rfl _ _ (fun W h => h.range) Try.underlying57 rfl sizeDo)) ?_
        (try simp only [Act.put, List.getElem_toArray, List.getElem_cons_zero, List.getElem_cons_succ, List.setIfInBounds_toArray, List.set_cons_zero, List.set_cons_succ])
        refine wpDet_take ?vM2 (Bl.stays w5) (fun W h => hA5.below h) (i := 2) rfl (by kernel_rfl) (by kernel_rfl) (by kernel_rfl) (by kernel_rfl) (fun _ _ _ h => h) (Gives.value (by rfl) ?yM2) ?rM2
        case yM2 => (intro w' hSw; go_simp; try with_reducible rfl)
        (try simp only [Act.put, List.getElem_toArray, List.getElem_cons_zero, List.getElem_cons_succ, List.setIfInBounds_toArray, List.set_cons_zero, List.set_cons_succ])
        refine wpDet_take _ (Bl.stays w5) (fun W h => hA5.below h) (i := 5) rfl (by kernel_rfl) (by kernel_rfl) (by kernel_rfl) (by kernel_rfl) (fun _ _ _ h => h) (Gives.of_yields (yieldsIf_load_mid (by rfl) _ _ rfl _ _ rfl _ _ (fun W h => h.range) Try.underlying57 rfl sizeDo)) ?_
        (try simp only [Act.put, List.getElem_toArray, List.getElem_cons_zero, List.getElem_cons_succ, List.setIfInBounds_toArray, List.set_cons_zero, List.set_cons_succ])
        refine wpDet_take ?vM6 (Bl.stays w5) (fun W h => hA5.below h) (i := 6) rfl (by kernel_rfl) (by kernel_rfl) (by kernel_rfl) (by kernel_rfl) (fun _ _ _ h => h) (Gives.value (by rfl) ?yM6) ?rM6
        case yM6 => (intro w' hSw; go_simp; try with_reducible rfl)
        (try simp only [Act.put, List.getElem_toArray, List.getElem_cons_zero, List.getElem_cons_succ, List.setIfInBounds_toArray, List.set_cons_zero, List.set_cons_succ])
        refine wpDet_ready (rs := [3]) (by kernel_rfl) (by simp) (AllDet.cons rfl (fun V hV K hK => ?_) AllDet.nil)
        rw [if_pos (by rfl)]
        refine wp_enterE 28 #[.pointer (some ⟨g, 0, none⟩)] (by first | (go_simp; done) | (go_simp; rfl)) (fun v W => v = .int .i64 s.at_ ∧ W = V) ((At_any g r s V (hL5.below hV)).mono fun e' w' hh => ⟨_, hh.1, rfl, hh.2⟩) ?_
        rintro v V7 ⟨rfl, hw7⟩
        subst V7
        refine hK.out (Bl w5) _ _ (Bl.stays w5) (fun _ => (fun W h => hA5.below h)) hV ?_
        clear hK K hV
        (try simp only [Act.put, List.getElem_toArray, List.getElem_cons_zero, List.getElem_cons_succ, List.setIfInBounds_toArray, List.set_cons_zero, List.set_cons_succ])
        refine wpDet_ready (rs := [4]) (by kernel_rfl) (by simp) (AllDet.cons rfl (fun V hV K hK => ?_) AllDet.nil)
        rw [if_pos (by rfl)]
        refine wp_enterE 30 #[.agg #[.int .i64 xk, .int .i64 xn, .int .i64 xs, .int .i64 xe, .slice bq bl bc, .bool raw, .int .i64 by_, .int .i64 off], .int .i64 s.at_] (by first | (go_simp; done) | (go_simp; rfl)) (fun v W => v = .int .i64 (ixR ⟨xk, xn, xs, xe, bq, bl, bc, raw, by_, off, xb⟩ s.at_) ∧ Below V.heap.size V W) ((index_any xk xn xs xe bq bl bc raw by_ off xb s.at_ ⟨hs.at0, hs.at1⟩ V).mono fun e' w' hh => ⟨_, hh.1, rfl, hh.2⟩) ?_
        rintro v V7 ⟨rfl, hb7⟩
        refine hK.out (Bl w5) _ _ (Bl.stays w5) (fun _ => (fun W h => hA5.below h)) (Bl.stays w5 V V7 hV hb7) ?_
        clear hK K hV hb7
        (try simp only [Act.put, List.getElem_toArray, List.getElem_cons_zero, List.getElem_cons_succ, List.setIfInBounds_toArray, List.set_cons_zero, List.set_cons_succ])
        refine wpDet_ready (rs := [7]) (by kernel_rfl) (by simp) (AllDet.cons rfl (fun V hV K hK => ?_) AllDet.nil)
        rw [if_pos (by rfl)]
        refine wp_enterE 20 #[.pointer (some ⟨g, 0, none⟩)] (by first | (go_simp; done) | (go_simp; rfl)) (fun v W => (∃ q d, v = .agg #[.int .i64 s.e, .slice q s.ms.length d]) ∧ Below V.heap.size V W) ((Chain_any g r s V (hL5.below hV) hl6).mono fun e' w' hh => by obtain ⟨v, h1, q, d, h2, _, _, h3⟩ := hh; exact ⟨v, h1, ⟨q, d, h2⟩, h3⟩) ?_
        rintro v V7 ⟨⟨q7, d7, rfl⟩, hb7⟩
        refine hK.out (Bl w5) _ _ (Bl.stays w5) (fun _ => (fun W h => hA5.below h)) (Bl.stays w5 V V7 hV hb7) ?_
        clear hK K hV hb7
        (try simp only [Act.put, List.getElem_toArray, List.getElem_cons_zero, List.getElem_cons_succ, List.setIfInBounds_toArray, List.set_cons_zero, List.set_cons_succ])
        refine wpDet_take ?vM8 (Bl.stays w5) (fun W h => hA5.below h) (i := 8) rfl (by kernel_rfl) (by kernel_rfl) (by kernel_rfl) (by kernel_rfl) (fun _ _ _ h => h) (Gives.value (by rfl) ?yM8) ?rM8
        case yM8 => (intro w' hSw; have hfe := field_e; go_simp; try with_reducible rfl)
        (try simp only [Act.put, List.getElem_toArray, List.getElem_cons_zero, List.getElem_cons_succ, List.setIfInBounds_toArray, List.set_cons_zero, List.set_cons_succ])
        refine wpDet_ready (rs := [9]) (by kernel_rfl) (by simp) (AllDet.cons rfl (fun V hV K hK => ?_) AllDet.nil)
        rw [if_pos (by rfl)]
        refine wp_enterE 26 #[.agg #[.int .i64 xk, .int .i64 xn, .int .i64 xs, .int .i64 xe, .slice bq bl bc, .bool raw, .int .i64 by_, .int .i64 off], .int .i64 s.e] (by first | (go_simp; done) | (go_simp; rfl)) (fun v W => Dat V W ⟨xk, xn, xs, xe, bq, bl, bc, raw, by_, off, xb⟩ s.e v ∧ Below V.heap.size V W) ((data_any ⟨xk, xn, xs, xe, bq, bl, bc, raw, by_, off, xb⟩ s.e hse V (hrd5.below hV)).mono fun e' w' hh => by obtain ⟨v, h1, h2, h3⟩ := hh; exact ⟨v, h1, h2, h3⟩) ?_
        rintro v V7 ⟨⟨p9, n9, c9, rfl, hrd9, hby9, hn9, hfar9⟩, hb7⟩
        refine hK.out (fun W => Bl w5 W ∧ Rd .u8 W p9 n9 c9 (dataR ⟨xk, xn, xs, xe, bq, bl, bc, raw, by_, off, xb⟩ s.e)) _ _ ((Bl.stays w5).and (Rd.stays _ _ _ _)) (fun _ W h => hA5.below h.1) ⟨Bl.stays w5 V V7 hV hb7, hrd9⟩ ?_
        clear hK K hV hb7 hrd9 hfar9
        (try simp only [Act.put, List.getElem_toArray, List.getElem_cons_zero, List.getElem_cons_succ, List.setIfInBounds_toArray, List.set_cons_zero, List.set_cons_succ])
        refine wpDet_ready (rs := [10]) (by kernel_rfl) (by simp) (AllDet.cons rfl (fun V hV K hK => ?_) AllDet.nil)
        rw [if_pos (by rfl)]
        have hLV := hL5.below hV.1
        have hTbV := hTb5.below hV.1
        have hTcV := hTc5.below hV.1
        have hA9 := hA5.below hV.1
        have hb9 := Bl.out hV.1
        have hAp := Apply_any g r s V hLV hs (ixR ⟨xk, xn, xs, xe, bq, bl, bc, raw, by_, off, xb⟩ s.at_) p9 n9 c9 (dataR ⟨xk, xn, xs, xe, bq, bl, bc, raw, by_, off, xb⟩ s.e) hV.2 hby9 (hn9.elim (fun h => Nat.le_trans h hbl) (fun h => by omega))
        refine wp_enterE 27 #[.pointer (some ⟨g, 0, none⟩), .int .i64 (ixR ⟨xk, xn, xs, xe, bq, bl, bc, raw, by_, off, xb⟩ s.at_), .slice p9 n9 c9] (by first | (go_simp; done) | (go_simp; rfl)) (fun v W => v = .int .i64 (s.app (ixR ⟨xk, xn, xs, xe, bq, bl, bc, raw, by_, off, xb⟩ s.at_) (dataR ⟨xk, xn, xs, xe, bq, bl, bc, raw, by_, off, xb⟩ s.e)).1 ∧ Aft V W g r (s.app (ixR ⟨xk, xn, xs, xe, bq, bl, bc, raw, by_, off, xb⟩ s.at_) (dataR ⟨xk, xn, xs, xe, bq, bl, bc, raw, by_, off, xb⟩ s.e)).2 ∧ Ex2 g r V W) (hAp.mono fun e' w' hh => ⟨_, hh.1, rfl, hh.2⟩) ?_
        rintro v V7 ⟨rfl, hAf, hE7⟩
        obtain ⟨r7, hr7, hL7⟩ := hAf
        have hTb7 := hTbV.ex2 hE7 hr7
        have hTc7 := hTcV.ex2 hE7 hr7
        have hA7 : At 57 V7 x #[.int .i64 xk, .int .i64 xn, .int .i64 xs, .int .i64 xe, .slice bq bl bc, .bool raw, .int .i64 by_, .int .i64 off] := (hE7.block x hA9.lt hxg hxr).trans hA9
        have hB7 := hb9.mono hB5 |>.trans (hE7.below hg hr (Nat.le_trans hB5 hb9.size))
        refine hK.out (fun W => LP W g r7 (s.app (ixR ⟨xk, xn, xs, xe, bq, bl, bc, raw, by_, off, xb⟩ s.at_) (dataR ⟨xk, xn, xs, xe, bq, bl, bc, raw, by_, off, xb⟩ s.e)).2 ∧ At 57 W x #[.int .i64 xk, .int .i64 xn, .int .i64 xs, .int .i64 xe, .slice bq bl bc, .bool raw, .int .i64 by_, .int .i64 off] ∧ B ≤ W.heap.size ∧ Below B w5 W ∧ Tw W g r7 gb rb S ∧ Tw W g r7 gc rc S) _ _ (fun _ _ h hb => ⟨h.1.below hb, h.2.1.below hb, Nat.le_trans h.2.2.1 hb.size, h.2.2.2.1.trans (hb.mono h.2.2.1), h.2.2.2.2.1.below hb, h.2.2.2.2.2.below hb⟩) (fun _ W h => h.2.1) ⟨hL7, hA7, Nat.le_trans hB5 (Nat.le_trans hb9.size hE7.size), hB7, hTb7, hTc7⟩ ?_
        have hr70 : B ≤ r7 := hr7.elim (fun h => by rw [h]; exact hr) (fun h => Nat.le_trans (Nat.le_trans hB5 hb9.size) h)
        clear hK K hV hLV hA9 hb9 hAp hE7 hL7 hA7 hB7 hr7 hTb7 hTc7 hTbV hTcV
        (try simp only [Act.put, List.getElem_toArray, List.getElem_cons_zero, List.getElem_cons_succ, List.setIfInBounds_toArray, List.set_cons_zero, List.set_cons_succ])
        refine wpDet_done (by kernel_rfl) (fun W9 hV => ?_) _
        obtain ⟨hL9, hA9, hs9, hB9, hTb9, hTc9⟩ := hV
        have hBf := hb5.trans hB9
        have hL9' : LP W9 g r7 (playJ S zs (k + 1)) := by rw [HS.out]; exact hL9
        clear hL5 hA5 hrd5 hL9 hA9 hb5 hTb5 hTc5
        go_wp2_with fail
        exact ⟨⟨k + 1, r7, by omega, by go_num, hL9', hTb9, hTc9, hr70, hBf⟩, by simp [intOf]; omega⟩
      · obtain rfl : k = m2 := by omega
        have hok := playJ_ok HSok.out zs k
        obtain ⟨T, HT⟩ : ∃ T, Hid (playJ S zs k = T) := ⟨_, rfl⟩
        rw [HT.out] at hL hok HApp
        have hbw : Below w.heap.size w wr := by rw [HBB.out]; exact hb
        have g5 := cloneJ_any q m d ls wr (HLs.out.below hbw) (by omega)
        go_wp2_with fail
        refine g5.mono ?_
        rintro o w8 ⟨v8, rfl, ho8, hb8⟩
        have hbw8 := hbw.trans (hb8.mono hbw.size)
        clear g5
        go_wp2_with (refine wpList_appJ _ rfl (.tmp 62) (.tmp 63) rfl wr.heap.size v8 m ls rfl ho8 q2 k d2 zs rfl (HZ.out.below hbw8) hb8.size ?d1 ?d2 ?_)
        case d1 => omega
        case d2 => omega
        intro v9 w9 ho9 hb9
        have hb19 : Below wr.heap.size wr w9 := hb8.trans hb9
        have hbw9 := hbw.trans (hb19.mono hbw.size)
        have hall := rd_app (a := ls) (b := zs) (w := w9) (fun j hj => (HLs.out.below hbw9).rd j (by rw [← HLs.out.len]; exact hj)) (fun j hj => (HZ.out.below hbw9).rd j (by rw [← HZ.out.len]; exact hj))
        have hlen : (ls ++ zs).length = m + k := by rw [List.length_append, HLs.out.len, HZ.out.len]
        obtain ⟨p9, c9, rfl, hr9⟩ := RdJ.of_owns ho9 hlen (fun j hj => hall j (by rw [hlen]; exact hj))
        have g6 := made_law p n c ms w9 (HM.out.below hbw9) M HFi.out HK1.out p9 (m + k) c9 (ls ++ zs) hr9 hcnt (small_app hsm hsm2)
        rw [HApp.out] at g6
        have hL9 := hL.below hb19
        have hTb9 := hTb.below hb19
        have hTc9 := hTc.below hb19
        clear ho8 ho9 hb8 hb9 hbw8 hall hlen hr9 hL hTb hTc hb19 hbw
        go_wp2_with fail
        refine g6.mono ?_
        rintro o wa ⟨v, rfl, gx, rx, rfl, hLx, _, _, hba⟩
        have hbwa := hbw9.trans (hba.mono hbw9.size)
        have hLa := hL9.below hba
        have hTba := (hTb9.below hba).lp
        have hTca := (hTc9.below hba).lp
        have hlS := (chk_parts HSok.out.chk).2.2.2
        have hlT := (chk_parts hok.chk).2.2.2
        clear g6 hL9 hTb9 hTc9 hba hbw9
        have c1 := Chain_any gb rb S wa hTba hlS
        go_wp2_with fail
        refine c1.mono ?_
        rintro o w1 ⟨v, rfl, qa, da, rfl, hra, _, hb1⟩
        have c2 := Chain_any gc rc S w1 (hTca.below hb1) hlS
        clear c1
        go_wp2_with fail
        refine c2.mono ?_
        rintro o w2 ⟨v, rfl, qb, db, rfl, hrb, _, hb2⟩
        have c3 := Same_any S.e S.e qa qb S.ms.length S.ms.length da db S.ms S.ms w2 (hra.below hb2) hrb (by omega) (by omega)
        rw [same_eq] at c3
        clear c2
        go_wp2_with fail
        refine c3.mono ?_
        rintro o w3 ⟨rfl, hb3⟩
        have hB3 : Below wa.heap.size wa w3 := (hb1.trans (hb2.mono hb1.size)).trans (hb3.mono (Nat.le_trans hb1.size hb2.size))
        have d1 := At_any gb rb S w3 (hTba.below hB3)
        clear c3 hra hrb hb1 hb2 hb3
        go_wp2_with fail
        refine d1.mono ?_
        rintro o w4 ⟨rfl, hw4⟩
        subst w4
        have d2 := At_any gc rc S w3 (hTca.below hB3)
        clear d1
        go_wp2_with fail
        refine d2.mono ?_
        rintro o w4 ⟨rfl, hw4⟩
        subst w4
        have e1 := Chain_any g r T w3 (hLa.below hB3) hlT
        have heS : (S.at_ == S.at_) = true := by simp
        have heT : (T.at_ == T.at_) = true := by simp
        clear d2
        go_wp2_with fail
        refine e1.mono ?_
        rintro o w4 ⟨v, rfl, qa4, da4, rfl, hra, _, hb4⟩
        have e2 := Chain_any gx rx T w4 ((hLx.below hB3).below hb4) hlT
        clear e1
        go_wp2_with fail
        refine e2.mono ?_
        rintro o w5 ⟨v, rfl, qb5, db5, rfl, hrb, _, hb5⟩
        have e3 := Same_any T.e T.e qa4 qb5 T.ms.length T.ms.length da4 db5 T.ms T.ms w5 (hra.below hb5) hrb (by omega) (by omega)
        rw [same_eq] at e3
        clear e2
        go_wp2_with fail
        refine e3.mono ?_
        rintro o w6 ⟨rfl, hb6⟩
        have hB6 : Below w3.heap.size w3 w6 := (hb4.trans (hb5.mono hb4.size)).trans (hb6.mono (Nat.le_trans hb4.size hb5.size))
        have f1 := At_any g r T w6 ((hLa.below hB3).below hB6)
        clear e3 hra hrb hb4 hb5 hb6
        go_wp2_with fail
        refine f1.mono ?_
        rintro o w7 ⟨rfl, hw7⟩
        subst w7
        have f2 := At_any gx rx T w6 ((hLx.below hB3).below hB6)
        clear f1
        go_wp2_with fail
        refine f2.mono ?_
        rintro o w7 ⟨rfl, hw7⟩
        subst w7
        have HB := (hbwa.trans (hB3.mono hbwa.size)).trans (hB6.mono (Nat.le_trans hbwa.size hB3.size))
        clear f2 hTba hTca hLa hLx hB3 hB6
        go_wp2_with fail
        refine (hW _).mono ?_
        rintro o wz ⟨rfl, hbz⟩
        go_wp2_with fail
        go_ret
        exact ⟨rfl, HB.trans (hbz.mono HB.size)⟩

end Go.Proofs.Ytcnkpgbmegppbaa.M
