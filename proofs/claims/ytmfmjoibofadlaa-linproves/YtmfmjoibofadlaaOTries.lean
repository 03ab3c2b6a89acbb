/-
  Own text: the calls by which an order may go on.
-/
import Derived.Test.YtmfmjoibofadlaaORn
namespace Go.Proofs.Ytmfmjoibofadlaa.M
open Go.ChangeShapes Go.WideShapes Go.ChangeAt Go.RowKit
set_option linter.unusedSimpArgs false

theorem wp_enterX {P : Program} {op : Oper} {a : Act} {w : World} {K : Act → World → Prop} {Q : Exit → Act → World → Prop} (f : FuncId) (args : Array Value) (he : (execOp a.eval op).run P w = .ok (.enter f args) w) (R : Value → World → Prop) (hc : Calls P f args w fun e w' => ∃ v, e = .returned v ∧ R v w') (h : ∀ v w', R v w' → K (a.put op.dst v) w') : op.wp P a w K Q := by
  unfold Oper.wp
  rw [he]
  refine Calls.mono hc ?_
  rintro e w' ⟨v, rfl, hR⟩
  exact h v w' hR

theorem wp_app {P : Program} {op : Oper} {a : Act} {w : World} {K : Act → World → Prop} {Q : Exit → Act → World → Prop} (s x : Operand) (t : TypeId) (hop : op.op = .call { callee := .builtin .append, args := #[s, x], argTypes := #[t, t] }) (u v : Value) (hs : a.eval s = u) (hx : a.eval x = v) (y : Value) (w' : World)
    (hr : (Builtin.append_ #[t, t] op.type #[u, v]).run P w = .ok y w') (h : K (a.put op.dst y) w') : op.wp P a w K Q := by
  unfold Oper.wp
  simp [execOp, hop, resolve, invoke, builtin, hs, hx, hr, Result.andThen]
  exact h

/-- All that stood is as it was, and these numbers are the call's own. -/
def BZ (w : World) (p : Option Addr) (n c : Nat) (xs : List Int) (W : World) : Prop := Bl w W ∧ Ow .i64 3 W w.heap.size p n c xs

theorem BZ.stays (w : World) (p : Option Addr) (n c : Nat) (xs : List Int) : Stays (BZ w p n c xs) := fun W W' h hb => ⟨Bl.stays w W W' h.1 hb, h.2.below hb⟩

def BZ2 (w : World) (p : Option Addr) (n c : Nat) (xs : List Int) (q : Option Addr) (m d : Nat) (ys : List Int) (W : World) : Prop := BZ w p n c xs W ∧ Rd .i64 W q m d ys

theorem BZ2.stays (w : World) (p : Option Addr) (n c : Nat) (xs : List Int) (q : Option Addr) (m d : Nat) (ys : List Int) : Stays (BZ2 w p n c xs q m d ys) := fun W W' h hb => ⟨BZ.stays w p n c xs W W' h.1 hb, h.2.below hb⟩

theorem ow_lt {k : IntKind} {e : TypeId} {w : World} {B : Nat} {p : Option Addr} {n c : Nat} {xs : List Int} (h : Ow k e w B p n c xs) (h0 : 0 < n) {a : Addr} (hp : p = some a) : B ≤ a.block := by
  rcases h.own with ⟨rfl, _⟩ | ho
  · omega
  · exact (World.ownsRow.lt ho a.block (by rw [hp]; rfl)).1

/-- The calls by which an order may go on. -/
def triesF (n : Nat) (L : List Lo) (mu : Nat) (ah : List Int) (R S : List Int) (d : Nat) (v : ByteArray) : List Int :=
  if 0 ≤ ixI (openB n L ah d v) 0 R then [R.getD (ixI (openB n L ah d v) 0 R).toNat 0] else rnF n L ah d v S R ++ unF n L mu ah d v S

set_option maxRecDepth 20000 in
set_option maxHeartbeats 4000000 in
theorem tries_any (w : World) (h : Nat) (p : Option Addr) (n c : Nat) (q : Option Addr) (e : Nat) (L : List Lo) (mu : Nat) (ah : List Int) (rp : Option Addr) (rn rc : Nat) (R : List Int) (wp : Option Addr) (wn wc : Nat) (S : List Int) (H : Se w h p n c q e L mu ah rp rn rc R wp wn wc S) (hrn : rn ≤ 24) (hwn : wn ≤ 1) (hR : Inn n R) (hSn : Inn n S) (d : Nat) (hd : d < 18446744073709551616) (v : ByteArray) :
    Calls Try.prog 45 #[.pointer (some ⟨h, 0, none⟩), .agg #[.int .u64 d, .string v]] w fun r w' => ∃ p' n' c', r = .returned (.slice p' n' c') ∧ n' ≤ 25 ∧ Rd .i64 w' p' n' c' (triesF n L mu ah R S d v) ∧ (∀ a, 0 < n' → p' = some a → w.heap.size ≤ a.block) ∧ Below w.heap.size w w' := by
  have hb0 := below_alloc w (.cells #[.pointer (some ⟨h, 0, none⟩)] 47)
  have hb1 := below_alloc (w.alloc (.cells #[.pointer (some ⟨h, 0, none⟩)] 47)) (.cells #[.int .u64 d, .string v] 53)
  have hbb := hb0.trans (hb1.mono hb0.size)
  have HS := H.below hbb
  have ks : ((w.alloc (.cells #[.pointer (some ⟨h, 0, none⟩)] 47)).alloc (.cells #[.int .u64 d, .string v] 53)).cell? ⟨w.heap.size, 0, none⟩ = some (.pointer (some ⟨h, 0, none⟩)) := by
    rw [hb1.cell (p := ⟨w.heap.size, 0, none⟩) (by simp)]; simp
  obtain ⟨k0, k1⟩ := point_box (w.alloc (.cells #[.pointer (some ⟨h, 0, none⟩)] 47)) 53 d v
  have hs1 : (w.alloc (.cells #[.pointer (some ⟨h, 0, none⟩)] 47)).heap.size = w.heap.size + 1 := by simp
  rw [hs1] at k0 k1
  obtain ⟨i0, hi0, hz0, hz1, hz2⟩ := info_parts infoI
  have hRl := H.reads.len
  have c3 := HS.c3
  have HT : Hid (triesF n L mu ah R S d v = if 0 ≤ ixI (openB n L ah d v) 0 R then [R.getD (ixI (openB n L ah d v) 0 R).toNat 0] else rnF n L ah d v S R ++ unF n L mu ah d v S) := rfl
  clear H hb0 hb1 hs1
  go_enter Try.func45, Try.ntmps45
  go_wp2_with fail
  generalize hV0 : ((w.alloc (.cells #[.pointer (some ⟨h, 0, none⟩)] 47)).alloc (.cells #[.int .u64 d, .string v] 53)) = V0 at *
  clear hV0
  have hA : AsksI 55 #[.pointer (some ⟨w.heap.size, 0, none⟩), .pointer (some ⟨w.heap.size + 1, 0, none⟩)] V0 R (openB n L ah d v) := fun W i _ hW =>
    opens_any W h p n c q e L mu ah (HS.pa.below hW) d hd v i w.heap.size (w.heap.size + 1) ((hW.cell (p := ⟨w.heap.size, 0, none⟩) (World.block_lt_of_cell? _ _ ks)).trans ks) ((hW.cell (p := ⟨w.heap.size + 1, 0, none⟩) (World.block_lt_of_cell? _ _ k0)).trans k0) ((hW.cell (p := ⟨w.heap.size + 1, 1, none⟩) (World.block_lt_of_cell? _ _ k1)).trans k1)
  have hI := indexI_any _ opens_cf _ _ rp rn rc R V0 HS.reads (by omega) hA
  have hat := ixI_at (openB n L ah d v) R 0
  refine hI.mono ?_
  rintro r5 w2 ⟨rfl, hb5⟩
  have H2 := HS.below hb5
  have ks2 := (hb5.cell (p := ⟨w.heap.size, 0, none⟩) (World.block_lt_of_cell? _ _ ks)).trans ks
  have k02 := (hb5.cell (p := ⟨w.heap.size + 1, 0, none⟩) (World.block_lt_of_cell? _ _ k0)).trans k0
  have k12 := (hb5.cell (p := ⟨w.heap.size + 1, 1, none⟩) (World.block_lt_of_cell? _ _ k1)).trans k1
  have c32 := H2.c3
  have hbb2 := hbb.trans (hb5.mono hbb.size)
  clear hI hA HS ks k0 k1 c3 hb5 hbb
  have hS0 : Bl w2 w2.drew := (Below.refl _ _).drew
  rcases hat with hat | ⟨j, hat, hjR⟩
  · have HE : Hid (triesF n L mu ah R S d v = rnF n L ah d v S R ++ unF n L mu ah d v S) := by
      unfold Hid
      rw [HT.out, hat, if_neg (by decide)]
    rw [hat]
    have hge : ¬ (0 : Int) ≤ -1 := by decide
    clear hat HT
    go_wp2_with fail
    refine wp_region_det [0, 1, 3, 4] (Bl w2) (Bl w2) (by kernel_rfl) hS0 ?_
    refine wpDet_take ?vW0 (Bl.stays w2) (fun _ h => h) (i := 0) rfl (by kernel_rfl) (by kernel_rfl) (by kernel_rfl) (by kernel_rfl) (fun _ _ _ h => h) (Gives.value (by rfl) ?yW0) ?rW0
    case yW0 => (intro w' hSw; have zz0 := ((show Below _ _ _ from hSw).cell (p := ⟨w.heap.size, 0, none⟩) (World.block_lt_of_cell? _ _ ks2)).trans ks2; (try dsimp only at hSw); go_simp; try with_reducible rfl)
    (try simp only [Act.put, List.getElem_toArray, List.getElem_cons_zero, List.getElem_cons_succ, List.setIfInBounds_toArray, List.set_cons_zero, List.set_cons_succ])
    refine wpDet_take ?vW1 (Bl.stays w2) (fun _ h => h) (i := 1) rfl (by kernel_rfl) (by kernel_rfl) (by kernel_rfl) (by kernel_rfl) (fun _ _ _ h => h) (Gives.value (by rfl) ?yW1) ?rW1
    case yW1 => (intro w' hSw; have zz0 := ((show Below _ _ _ from hSw).cell (p := ⟨w.heap.size + 1, 0, none⟩) (World.block_lt_of_cell? _ _ k02)).trans k02; have zz1 := ((show Below _ _ _ from hSw).cell (p := ⟨w.heap.size + 1, 1, none⟩) (World.block_lt_of_cell? _ _ k12)).trans k12; (try dsimp only at hSw); go_simp; try with_reducible rfl)
    (try simp only [Act.put, List.getElem_toArray, List.getElem_cons_zero, List.getElem_cons_succ, List.setIfInBounds_toArray, List.set_cons_zero, List.set_cons_succ])
    refine wpDet_take ?vW3 (Bl.stays w2) (fun _ h => h) (i := 3) rfl (by kernel_rfl) (by kernel_rfl) (by kernel_rfl) (by kernel_rfl) (fun _ _ _ h => h) (Gives.value (by rfl) ?yW3) ?rW3
    case yW3 => (intro w' hSw; have zz0 := ((show Below _ _ _ from hSw).cell (p := ⟨w.heap.size, 0, none⟩) (World.block_lt_of_cell? _ _ ks2)).trans ks2; (try dsimp only at hSw); go_simp; try with_reducible rfl)
    (try simp only [Act.put, List.getElem_toArray, List.getElem_cons_zero, List.getElem_cons_succ, List.setIfInBounds_toArray, List.set_cons_zero, List.set_cons_succ])
    refine wpDet_take ?vW4 (Bl.stays w2) (fun _ h => h) (i := 4) rfl (by kernel_rfl) (by kernel_rfl) (by kernel_rfl) (by kernel_rfl) (fun _ _ _ h => h) (Gives.value (by rfl) ?yW4) ?rW4
    case yW4 => (intro w' hSw; have zz0 := ((show Below _ _ _ from hSw).cell (p := ⟨w.heap.size + 1, 0, none⟩) (World.block_lt_of_cell? _ _ k02)).trans k02; have zz1 := ((show Below _ _ _ from hSw).cell (p := ⟨w.heap.size + 1, 1, none⟩) (World.block_lt_of_cell? _ _ k12)).trans k12; (try dsimp only at hSw); go_simp; try with_reducible rfl)
    (try simp only [Act.put, List.getElem_toArray, List.getElem_cons_zero, List.getElem_cons_succ, List.setIfInBounds_toArray, List.set_cons_zero, List.set_cons_succ])
    refine wpDet_ready (rs := [2]) (by kernel_rfl) (by simp) (AllDet.cons rfl (fun V hV K hK => ?_) AllDet.nil)
    rw [if_pos (by rfl)]
    have hbV := Bl.out hV
    have hC := readNext_any V h p n c q e L mu ah rp rn rc R wp wn wc S (H2.below hbV) hrn (by omega) hR hSn d hd v
    refine wp_enterX 57 #[.pointer (some ⟨h, 0, none⟩), .agg #[.int .u64 d, .string v]] (by first | (go_simp; done) | (go_simp; rfl)) (fun x W => (∃ p' n' c', x = .slice p' n' c' ∧ n' ≤ rn ∧ Ow .i64 3 W V.heap.size p' n' c' (rnF n L ah d v S R)) ∧ Below V.heap.size V W) (hC.mono fun r w' ⟨p', n', c', h1, h2, h3, h4⟩ => ⟨_, h1, ⟨p', n', c', rfl, h2, h3⟩, h4⟩) ?_
    rintro x7 V7 ⟨⟨p7, n7, c7, rfl, hn7, ho7⟩, hb7⟩
    have hz7 : BZ w2 p7 n7 c7 (rnF n L ah d v S R) V7 := ⟨Bl.stays w2 V _ hV hb7, ho7.lower hbV.size⟩
    refine hK.out (BZ w2 p7 n7 c7 (rnF n L ah d v S R)) _ _ (BZ.stays _ _ _ _ _) (fun _ _ h => h.1) hz7 ?_
    clear hK K hV hC hb7 ho7 hz7 hbV
    (try simp only [Act.put, List.getElem_toArray, List.getElem_cons_zero, List.getElem_cons_succ, List.setIfInBounds_toArray, List.set_cons_zero, List.set_cons_succ])
    refine wpDet_ready (rs := [5]) (by kernel_rfl) (by simp) (AllDet.cons rfl (fun V hV K hK => ?_) AllDet.nil)
    rw [if_pos (by rfl)]
    have hbV := Bl.out hV.1
    have hC := unread_any V h p n c q e L mu ah rp rn rc R wp wn wc S (H2.below hbV) hwn d hd v
    refine wp_enterX 58 #[.pointer (some ⟨h, 0, none⟩), .agg #[.int .u64 d, .string v]] (by first | (go_simp; done) | (go_simp; rfl)) (fun x W => (∃ p' n' c', x = .slice p' n' c' ∧ n' ≤ 1 ∧ Rd .i64 W p' n' c' (unF n L mu ah d v S)) ∧ Below V.heap.size V W) (hC.mono fun r w' ⟨p', n', c', h1, h2, h3, h4⟩ => ⟨_, h1, ⟨p', n', c', rfl, h2, h3⟩, h4⟩) ?_
    rintro x8 V8 ⟨⟨p8, n8, c8, rfl, hn8, hr8⟩, hb8⟩
    have hz8 : BZ2 w2 p7 n7 c7 (rnF n L ah d v S R) p8 n8 c8 (unF n L mu ah d v S) V8 := ⟨BZ.stays _ _ _ _ _ V _ hV hb8, hr8⟩
    refine hK.out (BZ2 w2 p7 n7 c7 (rnF n L ah d v S R) p8 n8 c8 (unF n L mu ah d v S)) _ _ (BZ2.stays _ _ _ _ _ _ _ _ _) (fun _ _ h => h.1.1) hz8 ?_
    clear hK K hV hC hb8 hr8 hz8 hbV
    (try simp only [Act.put, List.getElem_toArray, List.getElem_cons_zero, List.getElem_cons_succ, List.setIfInBounds_toArray, List.set_cons_zero, List.set_cons_succ])
    refine wpDet_ready (rs := [6]) (by kernel_rfl) (by simp) (AllDet.cons rfl (fun V hV K hK => ?_) AllDet.nil)
    rw [if_pos (by rfl)]
    obtain ⟨p9, c9, w9, hrun, ho9, hb9⟩ := run_app (P := Try.prog) V .i64 30 30 3 i0 (.int .i64 0) 8 Try.underlying30 hi0 hz0 hz1 hz2 rfl hV.1.2 hV.2 (by omega) (by unfold maxLen; omega) (Bl.out hV.1.1).size
    refine wp_app _ _ _ rfl _ _ rfl rfl _ w9 hrun ?_
    have hz9 : BZ w2 p9 (n7 + n8) c9 (rnF n L ah d v S R ++ unF n L mu ah d v S) w9 := ⟨(Bl.out hV.1.1).trans hb9, ho9⟩
    refine hK.out (BZ w2 p9 (n7 + n8) c9 (rnF n L ah d v S R ++ unF n L mu ah d v S)) _ _ (BZ.stays _ _ _ _ _) (fun _ _ h => h.1) hz9 ?_
    clear hK K hV hrun ho9 hb9 hz9
    (try simp only [Act.put, List.getElem_toArray, List.getElem_cons_zero, List.getElem_cons_succ, List.setIfInBounds_toArray, List.set_cons_zero, List.set_cons_succ])
    refine wpDet_ready (rs := [7]) (by kernel_rfl) (by simp) (AllDet.cons rfl (fun V hV K hK => ?_) AllDet.nil)
    rw [if_pos (by rfl)]
    refine wp_value (.slice p9 (n7 + n8) c9) V (by first | (go_simp; done) | (go_simp; rfl)) ?_
    refine hK.out (BZ w2 p9 (n7 + n8) c9 (rnF n L ah d v S R ++ unF n L mu ah d v S)) _ _ (BZ.stays _ _ _ _ _) (no_lean (by kernel_rfl)) hV ?_
    clear hK K hV
    (try simp only [Act.put, List.getElem_toArray, List.getElem_cons_zero, List.getElem_cons_succ, List.setIfInBounds_toArray, List.set_cons_zero, List.set_cons_succ])
    refine wpDet_done (by kernel_rfl) (fun W9 hV => ?_) _
    have hb9 := hbb2.trans ((Bl.out hV.1).mono hbb2.size)
    have hr9 := hV.2.rd
    rw [← HE.out] at hr9
    have hbl9 : ∀ a, 0 < n7 + n8 → p9 = some a → w.heap.size ≤ a.block := fun a h0 ha => Nat.le_trans hbb2.size (ow_lt hV.2 h0 ha)
    clear H2 ks2 k02 k12
    go_wp2_with fail
    go_ret
    exact ⟨p9, n7 + n8, c9, rfl, by omega, hr9, hbl9, hb9⟩
  · rw [Nat.zero_add] at hat
    have HE : Hid (triesF n L mu ah R S d v = [R.getD j 0]) := by
      unfold Hid
      rw [HT.out, hat, if_pos (by omega), Int.toNat_natCast]
    rw [hat]
    obtain ⟨br, orr, rfl, hcr⟩ := H2.reads.cells (by omega)
    have xr := hcr j (by omega)
    have hjr : (j : Int) < (rn : Int) := by omega
    have hge : (0 : Int) ≤ (j : Int) := by omega
    generalize R.getD j 0 = x at *
    have hr9 := Rd.one .i64 w2 3 x
    rw [← HE.out] at hr9
    have hb9 := hbb2.trans ((below_alloc w2 (.cells #[.int .i64 x] 3)).mono hbb2.size)
    clear hat HT hcr H2
    go_wp2_with fail
    go_ret
    exact ⟨_, 1, 1, rfl, by decide, hr9, fun a _ ha => by cases ha; exact hbb2.size, hb9⟩

end Go.Proofs.Ytmfmjoibofadlaa.M
