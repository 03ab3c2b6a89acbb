/-
  Own text: the bytes of a reel, in plain words, and the contract of sealed.
  Own text: bytes.Clone in memory of the call's own; the contract of follow.
  Own text: whether a base and records are short enough for a reel: the contract of fits.
  Own text: what a tape does to its disk: Read in memory of the call's own, and the contract of write.
  Own text: a slice of values whose row, from wherever in it on, is its owner's.
  Own text: a tape in memory, beside its disk; the contract of Save where it is done.
-/
import Derived.Test.YtpjhadaiodnnaaaTLoad2
import Derived.Test.YtpjhadaiodnnaaaDet2
import Derived.Test.YtpjhadaiodnnaaaETot
namespace Go.Proofs.Ytpjhadaiodnnaaa.M
open Go.ChangeShapes Go.WideShapes Go.ChangeAt Go.RowKit
set_option linter.unusedSimpArgs false

theorem wp_value {P : Program} {op : Oper} {a : Act} {w : World} {K : Act → World → Prop} {Q : Exit → Act → World → Prop} (v : Value) (w' : World) (he : (execOp a.eval op).run P w = .ok (.value v) w') (h : K (a.put op.dst v) w') : op.wp P a w K Q := by
  unfold Oper.wp
  rw [he]
  exact h

def Bl (w W : World) : Prop := Below w.heap.size w W

theorem Bl.stays (w : World) : Stays (Bl w) := fun _ _ h hb => h.trans (hb.mono h.size)

theorem Bl.out' {w W : World} (h : Bl w W) : Below w.heap.size w W := h

/-- A reel's first record, ahead of its seal. -/
def headR (r : PR) : List Int := putAll [r.gen, (r.recs.length : Int)] ++ (putL r.base.length ++ r.base)

/-- A reel's bytes. -/
def sealR (r : PR) : List Int := sealL (headR r) ++ (r.recs.map sealL).flatten

/-- May a reel be? -/
structure PR.ok (r : PR) : Prop where
  gen : 0 ≤ r.gen ∧ r.gen ≤ 1099511627776
  base : r.base.length ≤ 8176 ∧ By r.base
  few : r.recs.length ≤ 1000000
  recs : ∀ i, i < r.recs.length → By (r.recs.getD i []) ∧ (r.recs.getD i []).length ≤ 8192

theorem rd2 (V : World) (x y : Int) : Rd .u64 (V.alloc (.cells #[.int .u64 x, .int .u64 y] 133)) (some ⟨V.heap.size, 0, none⟩) 2 2 [x, y] := by
  refine ⟨rfl, Nat.le_refl _, (fun e => by cases e), fun _ => ⟨_, 0, rfl, fun i hi => ?_⟩⟩
  have hA := At.new 133 V #[.int .u64 x, .int .u64 y]
  match i, hi with
  | 0, _ => exact hA.cell 0
  | 1, _ => exact hA.cell 1

theorem sealL_len_le {ys : List Int} (h : ys.length ≤ 8192) : (sealL ys).length ≤ 8206 := by
  rw [length_sealL]
  have := putL_len (m := ys.length) (by omega)
  omega

theorem flat_take {l : List (List Int)} {k : Nat} (h : k < l.length) : ((l.take (k + 1)).map sealL).flatten = ((l.take k).map sealL).flatten ++ sealL (l.getD k []) := by
  rw [List.take_add_one, List.getElem?_eq_getElem h, List.map_append, List.flatten_append, List.getD_eq_getElem?_getD, List.getElem?_eq_getElem h]
  simp

theorem flat_len {l : List (List Int)} (h : ∀ i, i < l.length → (l.getD i []).length ≤ 8192) : ∀ k, k ≤ l.length → (((l.take k).map sealL).flatten).length ≤ k * 8206
  | 0, _ => by simp
  | k + 1, hk => by
    have ih := flat_len h k (by omega)
    rw [flat_take (by omega), List.length_append]
    have := sealL_len_le (h k (by omega))
    omega

theorem headR_ok {r : PR} (h : r.ok) : By (headR r) ∧ (headR r).length ≤ 8192 := by
  have h0 : (putAll [r.gen, (r.recs.length : Int)]) = putL r.gen.toNat ++ putL r.recs.length := by simp [putAll]
  have hg := h.gen
  have hf := h.few
  have hb := h.base
  unfold headR
  rw [h0]
  refine ⟨By.app (By.app (putL_by _) (putL_by _)) (By.app (putL_by _) hb.2), ?_⟩
  rw [List.length_append, List.length_append, List.length_append]
  have h1 := putL_len_le 5 r.gen.toNat (by have : r.gen.toNat ≤ 1099511627776 := by omega
                                           exact Nat.lt_of_le_of_lt this (by decide))
  have h2 := putL_len_le 2 r.recs.length (Nat.lt_of_le_of_lt hf (by decide))
  have h3 := putL_len_le 1 r.base.length (Nat.lt_of_le_of_lt hb.1 (by decide))
  omega

set_option maxRecDepth 20000 in
set_option maxHeartbeats 4000000 in
theorem sealed_any (w : World) (g : Nat) (r : PR) (hr : r.ok) (pb : Option Addr) (nb cb : Nat) (pr : Option Addr) (cr : Nat) (vs : List Value) (hG : At 72 w g #[.int .i64 r.gen, .slice pb nb cb, .slice pr r.recs.length cr]) (hb : Rd .u8 w pb nb cb r.base) (hv : RdV w pr r.recs.length cr vs) (hs : Sls w vs r.recs) :
    Calls Try.prog 59 #[.pointer (some ⟨g, 0, none⟩)] w fun e w' => (∃ p n c, e = .returned (.slice p n c) ∧ Ow .u8 5 w' w.heap.size p n c (sealR r)) ∧ Below w.heap.size w w' := by
  obtain ⟨gen, base, recs⟩ := r
  have hgen := hr.gen
  have hbas := hr.base
  have hfew := hr.few
  have hrec := hr.recs
  obtain ⟨hhby, hhl⟩ := headR_ok hr
  dsimp only at hG hb hv hs hgen hbas hfew hrec
  obtain ⟨nr, hnr⟩ : ∃ z, z = recs.length := ⟨_, rfl⟩
  have HN : Hid (nr = recs.length) := hnr
  rw [← hnr] at hG hv hfew
  have hwd : Wd [gen, (nr : Int)] := fun x hx => by
    simp only [List.mem_cons, List.not_mem_nil, or_false] at hx
    rcases hx with rfl | rfl <;> omega
  have hS0w : ∀ W, Bl w W → W.cell? ⟨g, 0, none⟩ = some (.int .i64 gen) ∧ W.cell? ⟨g, 2, none⟩ = some (.slice pr nr cr) := fun W h => ⟨(hG.below (Bl.out' h)).cell 0, (hG.below (Bl.out' h)).cell 2⟩
  have hcg : IntKind.u64.wrap gen = gen := by rw [show IntKind.u64.wrap gen = gen % 18446744073709551616 from rfl]; omega
  have hcn : IntKind.u64.wrap (nr : Int) = (nr : Int) := by rw [show IntKind.u64.wrap (nr : Int) = (nr : Int) % 18446744073709551616 from rfl]; omega
  have hS0 : Bl w w.drew := (Below.refl _ _).drew
  obtain ⟨i0, hi0, hz0, hz1, hz2⟩ := info_parts infoU8
  have HPL : Hid ((putAll [gen, (nr : Int)]).length ≤ 20) := by
    show _ ≤ 20
    have h0 : (putAll [gen, (nr : Int)]) = putL gen.toNat ++ putL nr := by simp [putAll]
    rw [h0, List.length_append]
    have h1 := putL_len (m := gen.toNat) (by omega)
    have h2 := putL_len (m := nr) (by omega)
    omega
  clear hnr
  go_enter Try.func59, Try.ntmps59
  go_wp2_with fail
  refine wp_region_det [0, 1, 2, 3, 4, 5, 6, 7, 8, 9, 10, 13] (fun W => W.cell? ⟨g, 0, none⟩ = some (.int .i64 gen) ∧ W.cell? ⟨g, 2, none⟩ = some (.slice pr nr cr)) (Bl w) (by kernel_rfl) hS0 ?_
  refine wpDet_take ?vA0 (Bl.stays w) hS0w (i := 0) rfl (by kernel_rfl) (by kernel_rfl) (by kernel_rfl) (by kernel_rfl) (fun _ _ _ h => h) (Gives.value (by rfl) ?yA0) ?rA0
  case yA0 => (intro w' hSw; (try dsimp only at hSw); go_simp; try with_reducible rfl)
  (try simp only [Act.put, List.getElem_toArray, List.getElem_cons_zero, List.getElem_cons_succ, List.setIfInBounds_toArray, List.set_cons_zero, List.set_cons_succ])
  refine wpDet_take ?vA1 (Bl.stays w) hS0w (i := 1) rfl (by kernel_rfl) (by kernel_rfl) (by kernel_rfl) (by kernel_rfl) (fun _ _ _ h => h) (Gives.value (by rfl) ?yA1) ?rA1
  case yA1 => (intro w' hSw; (try dsimp only at hSw); go_simp; try with_reducible rfl)
  (try simp only [Act.put, List.getElem_toArray, List.getElem_cons_zero, List.getElem_cons_succ, List.setIfInBounds_toArray, List.set_cons_zero, List.set_cons_succ])
  refine wpDet_take ?vA2 (Bl.stays w) hS0w (i := 2) rfl (by kernel_rfl) (by kernel_rfl) (by kernel_rfl) (by kernel_rfl) (fun _ _ _ h => h) (Gives.value (by rfl) ?yA2) ?rA2
  case yA2 => (intro w' hSw; (try dsimp only at hSw); go_simp; try with_reducible rfl)
  (try simp only [Act.put, List.getElem_toArray, List.getElem_cons_zero, List.getElem_cons_succ, List.setIfInBounds_toArray, List.set_cons_zero, List.set_cons_succ])
  refine wpDet_take ?vA3 (Bl.stays w) hS0w (i := 3) rfl (by kernel_rfl) (by kernel_rfl) (by kernel_rfl) (by kernel_rfl) (fun _ _ _ h => h) (Gives.value (by rfl) ?yA3) ?rA3
  case yA3 => (intro w' hSw; have hz0 := hSw.1; (try dsimp only at hSw); go_simp; try with_reducible rfl)
  (try simp only [Act.put, List.getElem_toArray, List.getElem_cons_zero, List.getElem_cons_succ, List.setIfInBounds_toArray, List.set_cons_zero, List.set_cons_succ])
  refine wpDet_take (.int .u64 gen) (Bl.stays w) hS0w (i := 4) rfl (by kernel_rfl) (by kernel_rfl) (by kernel_rfl) (by kernel_rfl) (fun _ _ _ h => h) (Gives.value (by rfl) ?yA4) ?rA4
  case yA4 => (intro w' hSw; (try dsimp only at hSw); go_simp; try with_reducible rfl)
  (try simp only [Act.put, List.getElem_toArray, List.getElem_cons_zero, List.getElem_cons_succ, List.setIfInBounds_toArray, List.set_cons_zero, List.set_cons_succ])
  refine wpDet_take ?vA5 (Bl.stays w) hS0w (i := 5) rfl (by kernel_rfl) (by kernel_rfl) (by kernel_rfl) (by kernel_rfl) (fun _ _ _ h => h) (Gives.value (by rfl) ?yA5) ?rA5
  case yA5 => (intro w' hSw; (try dsimp only at hSw); go_simp; try with_reducible rfl)
  (try simp only [Act.put, List.getElem_toArray, List.getElem_cons_zero, List.getElem_cons_succ, List.setIfInBounds_toArray, List.set_cons_zero, List.set_cons_succ])
  refine wpDet_take ?vA6 (Bl.stays w) hS0w (i := 6) rfl (by kernel_rfl) (by kernel_rfl) (by kernel_rfl) (by kernel_rfl) (fun _ _ _ h => h) (Gives.value (by rfl) ?yA6) ?rA6
  case yA6 => (intro w' hSw; (try dsimp only at hSw); go_simp; try with_reducible rfl)
  (try simp only [Act.put, List.getElem_toArray, List.getElem_cons_zero, List.getElem_cons_succ, List.setIfInBounds_toArray, List.set_cons_zero, List.set_cons_succ])
  refine wpDet_take ?vA7 (Bl.stays w) hS0w (i := 7) rfl (by kernel_rfl) (by kernel_rfl) (by kernel_rfl) (by kernel_rfl) (fun _ _ _ h => h) (Gives.value (by rfl) ?yA7) ?rA7
  case yA7 => (intro w' hSw; (try dsimp only at hSw); go_simp; try with_reducible rfl)
  (try simp only [Act.put, List.getElem_toArray, List.getElem_cons_zero, List.getElem_cons_succ, List.setIfInBounds_toArray, List.set_cons_zero, List.set_cons_succ])
  refine wpDet_take ?vA8 (Bl.stays w) hS0w (i := 8) rfl (by kernel_rfl) (by kernel_rfl) (by kernel_rfl) (by kernel_rfl) (fun _ _ _ h => h) (Gives.value (by rfl) ?yA8) ?rA8
  case yA8 => (intro w' hSw; have hz0 := hSw.2; (try dsimp only at hSw); go_simp; try with_reducible rfl)
  (try simp only [Act.put, List.getElem_toArray, List.getElem_cons_zero, List.getElem_cons_succ, List.setIfInBounds_toArray, List.set_cons_zero, List.set_cons_succ])
  refine wpDet_take ?vA9 (Bl.stays w) hS0w (i := 9) rfl (by kernel_rfl) (by kernel_rfl) (by kernel_rfl) (by kernel_rfl) (fun _ _ _ h => h) (Gives.value (by rfl) ?yA9) ?rA9
  case yA9 => (intro w' hSw; (try dsimp only at hSw); go_simp; try with_reducible rfl)
  (try simp only [Act.put, List.getElem_toArray, List.getElem_cons_zero, List.getElem_cons_succ, List.setIfInBounds_toArray, List.set_cons_zero, List.set_cons_succ])
  refine wpDet_take (.int .u64 nr) (Bl.stays w) hS0w (i := 10) rfl (by kernel_rfl) (by kernel_rfl) (by kernel_rfl) (by kernel_rfl) (fun _ _ _ h => h) (Gives.value (by rfl) ?yA10) ?rA10
  case yA10 => (intro w' hSw; (try dsimp only at hSw); go_simp; try with_reducible rfl)
  (try simp only [Act.put, List.getElem_toArray, List.getElem_cons_zero, List.getElem_cons_succ, List.setIfInBounds_toArray, List.set_cons_zero, List.set_cons_succ])
  refine wpDet_ready (rs := [11]) (by kernel_rfl) (by simp) (AllDet.cons rfl (fun V hV K hK => ?_) AllDet.nil)
  rw [if_pos (by rfl)]
  refine wp_value (.slice (some ⟨V.heap.size, 0, none⟩) 2 2) (V.alloc (.cells #[.int .u64 gen, .int .u64 nr] 133)) (by first | (go_simp; done) | (go_simp; rfl)) ?_
  have hba := below_alloc V (.cells #[.int .u64 gen, .int .u64 nr] 133)
  have hO := rd2 V gen nr
  have hb5 := Bl.stays w V _ hV hba
  obtain ⟨gs, hgs⟩ : ∃ z, z = V.heap.size := ⟨_, rfl⟩
  rw [← hgs] at hO ⊢
  refine hK.out (fun W => Bl w W ∧ Rd .u64 W (some ⟨gs, 0, none⟩) 2 2 [gen, nr]) _ _ (fun W W' h hb => ⟨Bl.stays w W W' h.1 hb, h.2.below hb⟩) (fun _ W h => hS0w W h.1) ⟨hb5, hO⟩ ?_
  clear hK K hV hba hO hb5 hgs
  (try simp only [Act.put, List.getElem_toArray, List.getElem_cons_zero, List.getElem_cons_succ, List.setIfInBounds_toArray, List.set_cons_zero, List.set_cons_succ])
  refine wpDet_ready (rs := [12]) (by kernel_rfl) (by simp) (AllDet.cons rfl (fun V hV K hK => ?_) AllDet.nil)
  rw [if_pos (by rfl)]
  have hC := put_any none 0 0 [] (some ⟨gs, 0, none⟩) 2 2 [gen, nr] V (Rd.empty _ _ _ _ (fun _ => rfl)) hV.2 hwd (by omega) (by omega)
  refine wp_enterX 85 #[.slice none 0 0, .slice (some ⟨gs, 0, none⟩) 2 2] (by first | (go_simp; done) | (go_simp; rfl)) (fun v V' => ∃ p' c', v = .slice p' (putAll [gen, nr]).length c' ∧ Rd .u8 V' p' (putAll [gen, nr]).length c' (putAll [gen, nr]) ∧ Below V.heap.size V V') (hC.mono fun e V' ⟨p', c', h1, h2, h3⟩ => ⟨_, h1, p', c', by rw [Nat.zero_add], by have := h2.rd; rw [Nat.zero_add, List.nil_append] at this; exact this, h3⟩) ?_
  rintro v V' ⟨p1, c1, rfl, hr1, hb1⟩
  refine hK.out (fun W => Bl w W ∧ Rd .u8 W p1 (putAll [gen, nr]).length c1 (putAll [gen, nr])) _ _ (fun W W' h hb => ⟨Bl.stays w W W' h.1 hb, h.2.below hb⟩) (fun _ W h => hS0w W h.1) ⟨Bl.stays w V V' hV.1 hb1, hr1⟩ ?_
  clear hK K hC hV hr1 hb1
  (try simp only [Act.put, List.getElem_toArray, List.getElem_cons_zero, List.getElem_cons_succ, List.setIfInBounds_toArray, List.set_cons_zero, List.set_cons_succ])
  refine wpDet_take ?vA13 (fun W W' h hb => ⟨Bl.stays w W W' h.1 hb, h.2.below hb⟩) (fun W h => hS0w W h.1) (i := 13) rfl (by kernel_rfl) (by kernel_rfl) (by kernel_rfl) (by kernel_rfl) (fun _ _ _ h => h) (Gives.value (by rfl) ?yA13) ?rA13
  case yA13 => (intro w' hSw; (try dsimp only at hSw); go_simp; try with_reducible rfl)
  (try simp only [Act.put, List.getElem_toArray, List.getElem_cons_zero, List.getElem_cons_succ, List.setIfInBounds_toArray, List.set_cons_zero, List.set_cons_succ])
  refine wpDet_done (by kernel_rfl) (fun W1 hW1 => ?_) _
  obtain ⟨hbW1', hr1⟩ := hW1
  have hbW1 := Bl.out' hbW1'
  have hG1 := hG.below hbW1
  have hb1 := hb.below hbW1
  obtain ⟨d0, d1, d2⟩ := hG1.three
  have gB := putBytes_any p1 _ c1 (putAll [gen, (nr : Int)]) pb nb cb base W1 hr1 hb1 (by have := HPL.out; omega) (by have := hb.len; omega)
  clear hbW1'
  go_wp2_with fail
  refine gB.mono ?_
  rintro e W2 ⟨p2, c2, rfl, hO2, hb2⟩
  have hlb := hb.len
  have hhead : Hid (headR ⟨gen, base, recs⟩ = putAll [gen, (nr : Int)] ++ (putL nb ++ base)) := by
    show _ = _
    unfold headR
    dsimp only
    rw [← HN.out, hlb]
  have hl2 := hO2.len
  rw [← hhead.out] at hO2 hl2
  have gS := seal_any p2 _ c2 (headR ⟨gen, base, recs⟩) W2 hO2.rd hhby (by rw [← hl2]; exact hhl)
  have hbW2 := hbW1.trans (hb2.mono hbW1.size)
  clear gB hb2 hG1 hb1 d0 d1 d2
  go_wp2_with fail
  refine gS.mono ?_
  rintro e W3 ⟨p3, n3, c3, rfl, hO3, hb3⟩
  have hbW3 := hbW2.trans (hb3.mono hbW2.size)
  have hO3' := hO3.lower hbW2.size
  have hG3 := hG.below hbW3
  obtain ⟨d0, d1, d2⟩ := hG3.three
  clear gS hb3 hO2 hO3 hr1
  obtain ⟨hd, Hhd⟩ : ∃ z, Hid (headR ⟨gen, base, recs⟩ = z) := ⟨_, rfl⟩
  rw [Hhd.out] at hO3' hhby hhl
  go_wp2_with fail
  go_loopw [4, 38] (fun v ix wr => ∃ (k : Nat) (pq : Option Addr) (nq cq : Nat), k ≤ nr ∧ ix = .int .i64 k ∧ v = .slice pq nq cq ∧ Ow .u8 5 wr w.heap.size pq nq cq (sealL hd ++ ((recs.take k).map sealL).flatten) ∧ Below w.heap.size w wr) (fun _ ix _ => nr - (intOf ix).toNat)
  case atStart => exact ⟨0, p3, n3, c3, Nat.zero_le _, rfl, rfl, by rw [List.take_zero, List.map_nil, List.flatten_nil, List.append_nil]; exact hO3', hbW3⟩
  case round =>
    obtain ⟨k, pq, nq, cq, hk, rfl, rfl, hO, hbw⟩ := hrel
    have hwsz := hbw.size
    by_cases hkn : k < nr
    · have hki : (k : Int) < (nr : Int) := by omega
      have hvw := hv.below hbw
      obtain ⟨bv, ov, hpe, hcv⟩ := hvw.cells (by omega)
      subst hpe
      have hck := hcv k hkn
      obtain ⟨q0, m0, e0, hq0, hr0⟩ := (hs.below hbw).2 k (by rw [hv.len]; exact hkn)
      rw [hq0] at hck
      obtain ⟨hby0, hl0⟩ := hrec k (by rw [← HN.out]; exact hkn)
      have hfl := flat_take (l := recs) (k := k) (by rw [← HN.out]; exact hkn)
      have hfn := flat_len (l := recs) (fun i hi => (hrec i hi).2) k (by rw [← HN.out]; exact hk)
      have hhl2 := sealL_len_le hhl
      have hln := hO.len
      rw [List.length_append] at hln
      have hm0 : m0 ≤ 8192 := by rw [← hr0.len]; exact hl0
      have hsl := sealL_len_le hl0
      generalize recs.getD k [] = y at *
      have gS := seal_any q0 m0 e0 y wr hr0 hby0 hm0
      clear hcv
      go_wp2_with fail
      refine gS.mono ?_
      rintro e W4 ⟨p4, n4, c4, rfl, hO4, hb4⟩
      have hOb := hO.below hb4
      have hn4 := hO4.len
      have hbw4 := hbw.trans (hb4.mono hwsz)
      have hB4 := hbw4.size
      have HFL : Hid (((recs.take (k + 1)).map sealL).flatten = ((recs.take k).map sealL).flatten ++ sealL y) := hfl
      clear gS hfl hO hb4 hck hvw
      go_wp2_with (at_builtin; refine wpList_app _ rfl (.tmp 47) (.tmp 48) 22 rfl .u8 5 i0 (.int .u8 0) 1 Try.underlying22 hi0 hz0 hz1 hz2 rfl w.heap.size pq nq cq _ rfl hOb p4 n4 c4 (sealL y) rfl hO4.rd ?d1 ?d2 hB4 ?_; rotate_left 2; intro p5 c5 W5 hO5 hb5)
      case d1 => omega
      case d2 => unfold maxLen; omega
      go_roundw
      case rel => exact ⟨k + 1, p5, nq + n4, c5, by omega, by go_num, rfl, by rw [HFL.out, ← List.append_assoc]; exact hO5, hbw4.trans hb5⟩
      case measure => simp [intOf]; omega
    · have hki : ¬ (k : Int) < (nr : Int) := by omega
      have et : recs.take k = recs := List.take_of_length_le (by rw [← HN.out]; omega)
      rw [et] at hO
      go_wp2_with fail
      go_ret
      refine ⟨⟨pq, nq, cq, rfl, ?_⟩, hbw⟩
      unfold sealR
      rw [Hhd.out]
      exact hO

end Go.Proofs.Ytpjhadaiodnnaaa.M

namespace Go.Proofs.Ytpjhadaiodnnaaa.M
open Go.ChangeShapes Go.WideShapes Go.ChangeAt Go.RowKit
set_option linter.unusedSimpArgs false

set_option maxRecDepth 20000 in
theorem bcloneO (p : Option Addr) (n c : Nat) (xs : List Int) (w : World) (hr : Rd .u8 w p n c xs) (hn : n ≤ 1099511627776) :
    Calls Try.prog 61 #[.slice p n c] w fun e w' => ∃ p' c', e = .returned (.slice p' n c') ∧ Ow .u8 5 w' w.heap.size p' n c' xs ∧ Below w.heap.size w w' := by
  have q22 : ∀ (w : World) (a : Option Addr) (n c n' c' : Nat), (binOp .eql 22 (.slice a n c) (.slice none n' c')).run Try.prog w = .ok (.bool a.isNone) w := fun w a n c n' c' => Lib.run_eql_slice_nil w _ _ a n c n' c' Try.underlying22
  cases p with
  | none =>
    have hc := hr.nil rfl
    have hn0 : n = 0 := by have := hr.cap; omega
    subst hc hn0
    obtain rfl : xs = [] := List.length_eq_zero_iff.1 hr.len
    go_enter Try.func61, Try.ntmps61
    go_wp2
    go_ret
    exact ⟨none, 0, rfl, Ow.empty _ _ _ _ _, Below.refl _ _⟩
  | some a =>
    obtain ⟨i0, hi0, hz0, hz1, hz2⟩ := info_parts infoU8
    go_enter Try.func61, Try.ntmps61
    go_wp2_with (at_builtin; refine wpList_app _ rfl _ _ 22 rfl .u8 5 i0 (.int .u8 0) 1 Try.underlying22 hi0 hz0 hz1 hz2 rfl w.heap.size _ _ _ [] rfl (Ow.empty _ _ _ _ _) _ _ _ xs rfl (hr.below (below_alloc _ _)) ?d1 ?d2 ?d3 ?_)
    case d1 => omega
    case d2 => unfold maxLen; omega
    case d3 => simp
    intro p2 c2 w2 ho2 hb2
    have hb3 := ((below_alloc w (.cells #[] 5)).trans hb2)
    clear hb2
    go_wp2
    go_ret
    exact ⟨p2, c2, by simp, by simpa using ho2, hb3⟩

/-- Bytes of the call's own lie in no block of another type. -/
theorem Ow.exT {t : TypeId} {w w' : World} {B g n c : Nat} {p : Option Addr} {xs : List Int} {cs : Array Value} (h : Ow .u8 5 w B p n c xs) (hg : At t w g cs) (he : Ex g w w') (ht : t ≠ 5) : Ow .u8 5 w' B p n c xs := by
  refine ⟨h.len, ?_⟩
  rcases h.own with h1 | h1
  · exact Or.inl h1
  · refine Or.inr (ownsRow_ex h1 he fun e => ?_)
    rcases h1.2 with ⟨h2, _⟩ | ⟨g', cap, cur, hv, _, hh, _⟩
    · rw [h2] at e; cases e
    · rw [hv] at e
      cases e
      rw [show w.heap[g']? = _ from hg] at hh
      injection hh with hh
      injection hh with _ h3
      exact ht h3

theorem Slo.exT {t : TypeId} {w w' : World} {B g : Nat} {vs : List Value} {xss : List (List Int)} {cs : Array Value} (h : Slo 5 w B vs xss) (hg : At t w g cs) (he : Ex g w w') (ht : t ≠ 5) : Slo 5 w' B vs xss :=
  ⟨h.1, fun i hi => by obtain ⟨q, m, d, e, r⟩ := h.2 i hi; exact ⟨q, m, d, e, r.exT hg he ht⟩⟩

theorem OwV.exT {t e : TypeId} {w w' : World} {B g n c : Nat} {p : Option Addr} {vs : List Value} {cs : Array Value} (h : OwV e w B p n c vs) (hg : At t w g cs) (he : Ex g w w') (ht : t ≠ e) : OwV e w' B p n c vs := by
  refine ⟨h.len, ?_⟩
  rcases h.own with h1 | h1
  · exact Or.inl h1
  · refine Or.inr (ownsRow_ex h1 he fun e' => ?_)
    rcases h1.2 with ⟨h2, _⟩ | ⟨g', cap, cur, hv, _, hh, _⟩
    · rw [h2] at e'; cases e'
    · rw [hv] at e'
      cases e'
      rw [show w.heap[g']? = _ from hg] at hh
      injection hh with hh
      injection hh with _ h3
      exact ht h3

/-- A reel's value, all of it memory of the call's own. -/
def ReW (w : World) (B : Nat) (v : Value) (r : PR) : Prop := ∃ pb nb cb pr cr vs, v = .agg #[.int .i64 r.gen, .slice pb nb cb, .slice pr r.recs.length cr] ∧ Ow .u8 5 w B pb nb cb r.base ∧ OwV 22 w B pr r.recs.length cr vs ∧ Slo 5 w B vs r.recs

theorem info1 : (Try.prog.info? 22).map (fun i => (i.zero, i.size, i.bytes)) = some (some (.slice none 0 0), 1, 24) := by kernel_rfl

theorem wp_app {P : Program} {op : Oper} {a : Act} {w : World} {K : Act → World → Prop} {Q : Exit → Act → World → Prop} (s x : Operand) (t : TypeId) (hop : op.op = .call { callee := .builtin .append, args := #[s, x], argTypes := #[t, t] }) (u v : Value) (hs : a.eval s = u) (hx : a.eval x = v) (y : Value) (w' : World)
    (hrun : (Builtin.append_ #[t, t] op.type #[u, v]).run P w = .ok y w') (h : K (a.put op.dst y) w') : op.wp P a w K Q := by
  unfold Oper.wp
  simp [execOp, hop, resolve, invoke, builtin, hs, hx, hrun, Result.andThen]
  exact h

theorem sizeSlV : (Try.prog.info? 31).map (·.size) = some 1 := by kernel_rfl

theorem results_reel1 {fn : Func} {p : Tmp} (h : fn.results = #[.cell p 72]) (tmps : Array Value) (w : World) (g : Nat) (x y z : Value) (hp : tmps.getD p undef = .pointer (some ⟨g, 0, none⟩)) (hg : At 72 w g #[x, y, z]) :
    (results fn tmps).run Try.prog w = .ok (.agg #[x, y, z]) w := by
  have hp' : tmps[p]?.getD undef = .pointer (some ⟨g, 0, none⟩) := by simpa using hp
  have hl := run_loadVar_mid (P := Try.prog) w g 0 72 [x, y, z] _ (fun j v hj => by
    rw [Nat.zero_add]
    match j, hj with
    | 0, hj => cases hj; exact hg.cell 0
    | 1, hj => cases hj; exact hg.cell 1
    | 2, hj => cases hj; exact hg.cell 2) Try.underlying72 rfl sizeR
  simp [results, h, hp', asAddr, hl]

theorem take_snocV {l : List (List Int)} {k : Nat} (h : k < l.length) : l.take (k + 1) = l.take k ++ [l.getD k []] := by
  rw [List.take_add_one, List.getElem?_eq_getElem h, List.getD_eq_getElem?_getD, List.getElem?_eq_getElem h]
  rfl

theorem At.put2 {t : TypeId} {w : World} {g : Nat} {a b c : Value} (h : At t w g #[a, b, c]) (z : Value) : At t (w.setCell ⟨g, 2, none⟩ z) g #[a, b, z] := heap_setCell_same _ g 2 _ _ z h

/-- While the records are cloned. -/
structure FlI (w0 : World) (gn gq : Nat) (gen : Int) (p6 : Option Addr) (nb c6 : Nat) (base : List Int) (Bv : Nat) (pq : Option Addr) (kq cq : Nat) (p8 : Option Addr) (k8 c8 : Nat) (vq : List Value) (rs : List (List Int)) (W : World) : Prop where
  an : At 72 W gn #[.int .i64 (gen + 1), .slice p6 nb c6, .slice pq kq cq]
  aq : At 72 W gq #[.int .i64 0, .slice none 0 0, .slice none 0 0]
  ob : Ow .u8 5 W w0.heap.size p6 nb c6 base
  ov : OwV 22 W Bv p8 k8 c8 vq
  so : Slo 5 W Bv vq rs
  bl : Below w0.heap.size w0 W
  sz : Bv ≤ W.heap.size

theorem FlI.stays (w0 : World) (gn gq : Nat) (gen : Int) (p6 : Option Addr) (nb c6 : Nat) (base : List Int) (Bv : Nat) (pq : Option Addr) (kq cq : Nat) (p8 : Option Addr) (k8 c8 : Nat) (vq : List Value) (rs : List (List Int)) : Stays (FlI w0 gn gq gen p6 nb c6 base Bv pq kq cq p8 k8 c8 vq rs) := fun _ _ h hb =>
  ⟨h.an.below hb, h.aq.below hb, h.ob.below hb, h.ov.below hb, h.so.below hb, h.bl.trans (hb.mono h.bl.size), Nat.le_trans h.sz hb.size⟩

theorem FlI.put {w0 : World} {gn gq : Nat} {gen : Int} {p6 : Option Addr} {nb c6 : Nat} {base : List Int} {Bv : Nat} {pq : Option Addr} {kq cq : Nat} {p8 : Option Addr} {k8 c8 : Nat} {vq : List Value} {rs : List (List Int)} {V : World} (h : FlI w0 gn gq gen p6 nb c6 base Bv pq kq cq p8 k8 c8 vq rs V) (hE : Ex gn V (V.setCell ⟨gn, 2, none⟩ (.slice p8 k8 c8))) (hne : gn ≠ gq) (_hB : gn < Bv) (hw : w0.heap.size ≤ gn) :
    FlI w0 gn gq gen p6 nb c6 base Bv p8 k8 c8 p8 k8 c8 vq rs (V.setCell ⟨gn, 2, none⟩ (.slice p8 k8 c8)) :=
  ⟨h.an.put2 _, h.aq.ex hE (Ne.symm hne), h.ob.exT h.an hE (by decide), h.ov.exT h.an hE (by decide), h.so.exT h.an hE (by decide), h.bl.trans (hE.below hw h.an.lt), Nat.le_trans h.sz hE.size⟩

theorem OwV.lowerB {e : TypeId} {w : World} {B B' n c : Nat} {p : Option Addr} {vs : List Value} (h : OwV e w B p n c vs) (hB : B' ≤ B) : OwV e w B' p n c vs := ⟨h.len, h.own.imp id fun h => ownsRow_lower h hB⟩

set_option maxRecDepth 20000 in
set_option maxHeartbeats 8000000 in
theorem follow_any (w : World) (gt : Nat) (gen : Int) (hc3 : w.cell? ⟨gt, 3, none⟩ = some (.int .i64 gen)) (hgen : 0 ≤ gen ∧ gen < 1099511627776) (pb : Option Addr) (nb cb : Nat) (base : List Int) (hb0 : Rd .u8 w pb nb cb base) (hnb : nb ≤ 8192) (pr : Option Addr) (nr cr : Nat) (vs : List Value) (recs : List (List Int)) (hv0 : RdV w pr nr cr vs) (hs0 : Sls w vs recs) (hnr : nr = recs.length) (hfew : nr ≤ 1000000) (hrec : ∀ i, i < recs.length → (recs.getD i []).length ≤ 8192) :
    Calls Try.prog 56 #[.pointer (some ⟨gt, 3, none⟩), .slice pb nb cb, .slice pr nr cr] w fun e w' => (∃ v, e = .returned v ∧ ReW w' w.heap.size v ⟨gen + 1, base, recs⟩) ∧ Below w.heap.size w w' := by
  have HN : Hid (nr = recs.length) := hnr
  clear hnr
  have hbaw := below_alloc w (.cells #[.int .i64 0, .slice none 0 0, .slice none 0 0] 72)
  have hGq := At.new 72 w #[.int .i64 0, .slice none 0 0, .slice none 0 0]
  have hbr := hb0.below hbaw
  have hv := hv0.below hbaw
  have hs := hs0.below hbaw
  have hc3w := cell_below hbaw hc3
  obtain ⟨i1, hi1, hy0, hy1, hy2⟩ := info_parts info1
  have hsz0 : (w.alloc (.cells #[.int .i64 0, .slice none 0 0, .slice none 0 0] 72)).heap.size = w.heap.size + 1 := by simp
  obtain ⟨gq, hgq⟩ : ∃ z, z = w.heap.size := ⟨_, rfl⟩
  clear hb0 hv0 hs0
  go_enter Try.func56, Try.ntmps56
  go_wp2_with fail
  generalize (w.alloc (.cells #[.int .i64 0, .slice none 0 0, .slice none 0 0] 72)) = w0 at *
  rw [← hgq] at hGq hsz0 ⊢
  have HGQ : Hid (w0.heap.size = gq + 1) := hsz0
  have HGQ2 : Hid (gq = w.heap.size) := hgq
  clear hsz0 hgq
  have hS0w : ∀ W, Bl w0 W → W.cell? ⟨gt, 3, none⟩ = some (.int .i64 gen) := fun W h => cell_below (Bl.out' h) hc3w
  have hS0 : Bl w0 w0.drew := (Below.refl _ _).drew
  have hwrap : IntKind.i64.wrap (gen + 1) = gen + 1 := by rw [IntKind.wrap_i64]; omega
  refine wp_region_det [0, 1, 2, 3, 4, 5, 7] (fun W => W.cell? ⟨gt, 3, none⟩ = some (.int .i64 gen)) (Bl w0) (by kernel_rfl) hS0 ?_
  refine wpDet_take ?vA0 (Bl.stays w0) hS0w (i := 0) rfl (by kernel_rfl) (by kernel_rfl) (by kernel_rfl) (by kernel_rfl) (fun _ _ _ h => h) (Gives.value (by rfl) ?yA0) ?rA0
  case yA0 => (intro w' hSw; go_simp; try with_reducible rfl)
  (try simp only [Act.put, List.getElem_toArray, List.getElem_cons_zero, List.getElem_cons_succ, List.setIfInBounds_toArray, List.set_cons_zero, List.set_cons_succ])
  refine wpDet_take ?vA1 (Bl.stays w0) hS0w (i := 1) rfl (by kernel_rfl) (by kernel_rfl) (by kernel_rfl) (by kernel_rfl) (fun _ _ _ h => h) (Gives.value (by rfl) ?yA1) ?rA1
  case yA1 => (intro w' hSw; go_simp; try with_reducible rfl)
  (try simp only [Act.put, List.getElem_toArray, List.getElem_cons_zero, List.getElem_cons_succ, List.setIfInBounds_toArray, List.set_cons_zero, List.set_cons_succ])
  refine wpDet_take ?vA2 (Bl.stays w0) hS0w (i := 2) rfl (by kernel_rfl) (by kernel_rfl) (by kernel_rfl) (by kernel_rfl) (fun _ _ _ h => h) (Gives.value (by rfl) ?yA2) ?rA2
  case yA2 => (intro w' hSw; go_simp; try with_reducible rfl)
  (try simp only [Act.put, List.getElem_toArray, List.getElem_cons_zero, List.getElem_cons_succ, List.setIfInBounds_toArray, List.set_cons_zero, List.set_cons_succ])
  refine wpDet_take ?vA3 (Bl.stays w0) hS0w (i := 3) rfl (by kernel_rfl) (by kernel_rfl) (by kernel_rfl) (by kernel_rfl) (fun _ _ _ h => h) (Gives.value (by rfl) ?yA3) ?rA3
  case yA3 => (intro w' hSw; have hz0 := hSw; go_simp; try with_reducible rfl)
  (try simp only [Act.put, List.getElem_toArray, List.getElem_cons_zero, List.getElem_cons_succ, List.setIfInBounds_toArray, List.set_cons_zero, List.set_cons_succ])
  refine wpDet_take (.int .i64 (gen + 1)) (Bl.stays w0) hS0w (i := 4) rfl (by kernel_rfl) (by kernel_rfl) (by kernel_rfl) (by kernel_rfl) (fun _ _ _ h => h) (Gives.value (by rfl) ?yA4) ?rA4
  case yA4 => (intro w' hSw; go_simp; (try exact hwrap))
  (try simp only [Act.put, List.getElem_toArray, List.getElem_cons_zero, List.getElem_cons_succ, List.setIfInBounds_toArray, List.set_cons_zero, List.set_cons_succ])
  refine wpDet_take ?vA5 (Bl.stays w0) hS0w (i := 5) rfl (by kernel_rfl) (by kernel_rfl) (by kernel_rfl) (by kernel_rfl) (fun _ _ _ h => h) (Gives.value (by rfl) ?yA5) ?rA5
  case yA5 => (intro w' hSw; go_simp; try with_reducible rfl)
  (try simp only [Act.put, List.getElem_toArray, List.getElem_cons_zero, List.getElem_cons_succ, List.setIfInBounds_toArray, List.set_cons_zero, List.set_cons_succ])
  refine wpDet_ready (rs := [6, 8]) (by kernel_rfl) (by simp) (AllDet.cons rfl (fun V hV K hK => ?_) (AllDet.cons rfl (fun V hV K hK => ?_) AllDet.nil))
  · rw [if_pos (by rfl)]
    have hC := bcloneO pb nb cb base V (hbr.below (Bl.out' hV)) (by omega)
    refine wp_enterX 61 #[.slice pb nb cb] (by first | (go_simp; done) | (go_simp; rfl)) (fun v V' => ∃ p' c', v = .slice p' nb c' ∧ Ow .u8 5 V' V.heap.size p' nb c' base ∧ Below V.heap.size V V') (hC.mono fun e V' ⟨p', c', h1, h2, h3⟩ => ⟨_, h1, p', c', rfl, h2, h3⟩) ?_
    rintro v V' ⟨p6, c6, rfl, ho6, hb6⟩
    refine hK.out (fun W => Bl w0 W ∧ Ow .u8 5 W w0.heap.size p6 nb c6 base ∧ True) _ _ (fun W W' h hb => ⟨Bl.stays w0 W W' h.1 hb, h.2.1.below hb, h.2.2⟩) (fun _ W h => hS0w W h.1) ⟨Bl.stays w0 V V' hV hb6, ho6.lower (Bl.out' hV).size, trivial⟩ ?_
    clear hK K hC hV ho6 hb6
    (try simp only [Act.put, List.getElem_toArray, List.getElem_cons_zero, List.getElem_cons_succ, List.setIfInBounds_toArray, List.set_cons_zero, List.set_cons_succ])
    refine wpDet_take ?vT7 (fun W W' h hb => ⟨Bl.stays w0 W W' h.1 hb, h.2.1.below hb, h.2.2⟩) (fun W h => hS0w W h.1) (i := 7) rfl (by kernel_rfl) (by kernel_rfl) (by kernel_rfl) (by kernel_rfl) (fun _ _ _ h => h) (Gives.value (by rfl) ?yT7) ?rT7
    case yT7 => (intro w' hSw; go_simp; try with_reducible rfl)
    (try simp only [Act.put, List.getElem_toArray, List.getElem_cons_zero, List.getElem_cons_succ, List.setIfInBounds_toArray, List.set_cons_zero, List.set_cons_succ])
    refine wpDet_ready (rs := [8]) (by kernel_rfl) (by simp) (AllDet.cons rfl (fun V hV K hK => ?_) AllDet.nil)
    rw [if_pos (by rfl)]
    refine wp_value (.pointer (some ⟨V.heap.size, 0, none⟩)) (V.alloc (.cells #[.int .i64 0, .slice none 0 0, .slice none 0 0] 72)) (by first | (go_simp; done) | (go_simp; rfl)) ?_
    have hba := below_alloc V (.cells #[.int .i64 0, .slice none 0 0, .slice none 0 0] 72)
    have hA8 := At.new 72 V #[.int .i64 0, .slice none 0 0, .slice none 0 0]
    have hb5 := Bl.stays w0 V _ hV.1 hba
    have hgn : w0.heap.size ≤ V.heap.size := (Bl.out' hV.1).size
    obtain ⟨gn, hgne⟩ : ∃ z, z = V.heap.size := ⟨_, rfl⟩
    rw [← hgne] at hA8 hgn ⊢
    refine hK.out (fun W => Bl w0 W ∧ Ow .u8 5 W w0.heap.size p6 nb c6 base ∧ At 72 W gn #[.int .i64 0, .slice none 0 0, .slice none 0 0]) _ _ (fun W W' h hb => ⟨Bl.stays w0 W W' h.1 hb, h.2.1.below hb, h.2.2.below hb⟩) (fun _ W h => hS0w W h.1) ⟨hb5, hV.2.1.below hba, hA8⟩ ?_
    clear hK K hV hba hA8 hb5 hgne
    (try simp only [Act.put, List.getElem_toArray, List.getElem_cons_zero, List.getElem_cons_succ, List.setIfInBounds_toArray, List.set_cons_zero, List.set_cons_succ])
    refine wpDet_ready (rs := [9]) (by kernel_rfl) (by simp) (AllDet.cons rfl (fun V hV K hK => ?_) AllDet.nil)
    rw [if_pos (by rfl)]
    have hth : V.there gn 0 3 := fun j hj => by
      rw [Nat.zero_add]
      refine ⟨?_, hV.2.2.free j⟩
      match j, hj with
      | 0, _ => rw [hV.2.2.cell 0]; rfl
      | 1, _ => rw [hV.2.2.cell 1]; rfl
      | 2, _ => rw [hV.2.2.cell 2]; rfl
    refine wp_store_mid 72 _ _ rfl gn 0 #[.int .i64 (gen + 1), .slice p6 nb c6, .slice none 0 0] rfl rfl hth sizeR (by simp [Value.oneCell']) ?_
    have hA9 : At 72 (V.setCells gn 0 (#[.int .i64 (gen + 1), .slice p6 nb c6, .slice none 0 0] : Array Value).toList) gn #[.int .i64 (gen + 1), .slice p6 nb c6, .slice none 0 0] := At.put3 hV.2.2 _ _ _
    have hE9 : Ex gn V (V.setCells gn 0 (#[.int .i64 (gen + 1), .slice p6 nb c6, .slice none 0 0] : Array Value).toList) := (((Ex.refl gn V).setCell 0 _).setCell 1 _).setCell 2 _
    have hO9 := hV.2.1.exT hV.2.2 hE9 (by decide)
    have hb9 : Below w0.heap.size w0 (V.setCells gn 0 (#[.int .i64 (gen + 1), .slice p6 nb c6, .slice none 0 0] : Array Value).toList) := (Bl.out' hV.1).trans (hE9.below hgn hV.2.2.lt)
    refine hK.out (fun W => Bl w0 W ∧ Ow .u8 5 W w0.heap.size p6 nb c6 base ∧ At 72 W gn #[.int .i64 (gen + 1), .slice p6 nb c6, .slice none 0 0]) _ _ (fun W W' h hb => ⟨Bl.stays w0 W W' h.1 hb, h.2.1.below hb, h.2.2.below hb⟩) (no_lean (by kernel_rfl)) ⟨hb9, hO9, hA9⟩ ?_
    clear hK K hV hth hA9 hE9 hO9 hb9
    (try simp only [Act.put, List.getElem_toArray, List.getElem_cons_zero, List.getElem_cons_succ, List.setIfInBounds_toArray, List.set_cons_zero, List.set_cons_succ])
    refine wpDet_done (by kernel_rfl) (fun W1 hW1 => ?_) _
    obtain ⟨hbW1', hO1, hA1⟩ := hW1
    have hbW1 := Bl.out' hbW1'
    have hq1 := hGq.below hbW1
    have hgnq : gn ≠ gq := by have := HGQ.out; omega
    have hw0n : w0.heap.size ≤ gn := hgn
    obtain ⟨Bv, HBv⟩ : ∃ z, z = W1.heap.size := ⟨_, rfl⟩
    have hgnB : gn < Bv := by rw [HBv]; exact hA1.lt
    have hgqB : gq < Bv := by rw [HBv]; exact hq1.lt
    have hB0 : w0.heap.size ≤ Bv := by rw [HBv]; exact hbW1.size
    have hst : FlI w0 gn gq gen p6 nb c6 base Bv none 0 0 none 0 0 [] (recs.take 0) W1 := ⟨hA1, hq1, hO1, OwV.empty _ _ _ _, Slo.nil _ _ _, hbW1, by rw [HBv]; exact Nat.le_refl _⟩
    clear hO1 hA1 hbW1' HBv hq1
    go_wp2_with fail
    go_loopw [20] (fun ix wr => ∃ (k : Nat) (pq : Option Addr) (cq : Nat) (vq : List Value), k ≤ nr ∧ ix = .int .i64 k ∧ FlI w0 gn gq gen p6 nb c6 base Bv pq k cq pq k cq vq (recs.take k) wr) (fun ix _ => nr - (intOf ix).toNat)
    case atStart => exact ⟨0, none, 0, [], Nat.zero_le _, rfl, hst⟩
    case round =>
      clear hst
      obtain ⟨k, pq, cq, vq, hk, rfl, ⟨hAn, hAq, hOb, hOv, hSo, hbw, hBv⟩⟩ := hrel
      by_cases hkn : k < nr
      · have hki : (k : Int) < (nr : Int) := by omega
        have hww : Below w0.heap.size w0 wr := hbw
        have hvw := hv.below hww
        obtain ⟨bv, ov, hpe, hcv⟩ := hvw.cells (by omega)
        subst hpe
        have hck := hcv k hkn
        obtain ⟨q0, m0, e0, hq0, hr0⟩ := (hs.below hww).2 k (by rw [hv.len]; exact hkn)
        rw [hq0] at hck
        have hl0 := hrec k (by rw [← HN.out]; exact hkn)
        have hm0 : m0 ≤ 8192 := by rw [← hr0.len]; exact hl0
        have HTK : Hid (recs.take (k + 1) = recs.take k ++ [recs.getD k []]) := take_snocV (by rw [← HN.out]; exact hkn)
        generalize recs.getD k [] = y at *
        have hS5w : ∀ W, Bl wr W → W.cell? ⟨gn, 2, none⟩ = some (.slice pq k cq) := fun W h => (hAn.below (Bl.out' h)).cell 2
        have hS5 : Bl wr wr.drew := (Below.refl _ _).drew
        clear hcv
        go_wp2_with fail
        refine wp_region_det [0, 1, 2] (fun W => W.cell? ⟨gn, 2, none⟩ = some (.slice pq k cq)) (Bl wr) (by kernel_rfl) hS5 ?_
        refine wpDet_take ?vL0 (Bl.stays wr) hS5w (i := 0) rfl (by kernel_rfl) (by kernel_rfl) (by kernel_rfl) (by kernel_rfl) (fun _ _ _ h => h) (Gives.value (by rfl) ?yL0) ?rL0
        case yL0 => (intro w' hSw; go_simp; try with_reducible rfl)
        (try simp only [Act.put, List.getElem_toArray, List.getElem_cons_zero, List.getElem_cons_succ, List.setIfInBounds_toArray, List.set_cons_zero, List.set_cons_succ])
        refine wpDet_take ?vL1 (Bl.stays wr) hS5w (i := 1) rfl (by kernel_rfl) (by kernel_rfl) (by kernel_rfl) (by kernel_rfl) (fun _ _ _ h => h) (Gives.value (by rfl) ?yL1) ?rL1
        case yL1 => (intro w' hSw; have hz0 := hSw; go_simp; try with_reducible rfl)
        (try simp only [Act.put, List.getElem_toArray, List.getElem_cons_zero, List.getElem_cons_succ, List.setIfInBounds_toArray, List.set_cons_zero, List.set_cons_succ])
        refine wpDet_take ?vL2 (Bl.stays wr) hS5w (i := 2) rfl (by kernel_rfl) (by kernel_rfl) (by kernel_rfl) (by kernel_rfl) (fun _ _ _ h => h) (Gives.value (by rfl) ?yL2) ?rL2
        case yL2 => (intro w' hSw; go_simp; try with_reducible rfl)
        (try simp only [Act.put, List.getElem_toArray, List.getElem_cons_zero, List.getElem_cons_succ, List.setIfInBounds_toArray, List.set_cons_zero, List.set_cons_succ])
        refine wpDet_ready (rs := [3]) (by kernel_rfl) (by simp) (AllDet.cons rfl (fun V hV K hK => ?_) AllDet.nil)
        rw [if_pos (by rfl)]
        have hC := bcloneO q0 m0 e0 y V (hr0.below (Bl.out' hV)) (by omega)
        refine wp_enterX 61 #[.slice q0 m0 e0] (by first | (go_simp; done) | (go_simp; rfl)) (fun v V' => ∃ p' c', v = .slice p' m0 c' ∧ Ow .u8 5 V' V.heap.size p' m0 c' y ∧ Below V.heap.size V V') (hC.mono fun e V' ⟨p', c', h1, h2, h3⟩ => ⟨_, h1, p', c', rfl, h2, h3⟩) ?_
        rintro v V' ⟨p7, c7, rfl, ho7, hb7⟩
        refine hK.out (fun W => Bl wr W ∧ Ow .u8 5 W Bv p7 m0 c7 y) _ _ (fun W W' h hb => ⟨Bl.stays wr W W' h.1 hb, h.2.below hb⟩) (fun _ W h => hS5w W h.1) ⟨Bl.stays wr V V' hV hb7, ho7.lower (Nat.le_trans hBv (Bl.out' hV).size)⟩ ?_
        clear hK K hC hV ho7 hb7
        (try simp only [Act.put, List.getElem_toArray, List.getElem_cons_zero, List.getElem_cons_succ, List.setIfInBounds_toArray, List.set_cons_zero, List.set_cons_succ])
        refine wpDet_ready (rs := [4]) (by kernel_rfl) (by simp) (AllDet.cons rfl (fun V hV K hK => ?_) AllDet.nil)
        rw [if_pos (by rfl)]
        refine wp_value (.slice (some ⟨V.heap.size, 0, none⟩) 1 1) (V.alloc (.cells #[.slice p7 m0 c7] 22)) (by first | (go_simp; done) | (go_simp; rfl)) ?_
        have hba := below_alloc V (.cells #[.slice p7 m0 c7] 22)
        have hA8 := At.new 22 V #[.slice p7 m0 c7]
        obtain ⟨gs, hgs⟩ : ∃ z, z = V.heap.size := ⟨_, rfl⟩
        rw [← hgs] at hA8 ⊢
        refine hK.out (fun W => Bl wr W ∧ Ow .u8 5 W Bv p7 m0 c7 y ∧ W.cell? ⟨gs, 0, none⟩ = some (.slice p7 m0 c7)) _ _ (fun W W' h hb => ⟨Bl.stays wr W W' h.1 hb, h.2.1.below hb, cell_below hb h.2.2⟩) (fun _ W h => hS5w W h.1) ⟨Bl.stays wr V _ hV.1 hba, hV.2.below hba, hA8.cell 0⟩ ?_
        clear hK K hV hba hA8 hgs
        (try simp only [Act.put, List.getElem_toArray, List.getElem_cons_zero, List.getElem_cons_succ, List.setIfInBounds_toArray, List.set_cons_zero, List.set_cons_succ])
        refine wpDet_ready (rs := [5]) (by kernel_rfl) (by simp) (AllDet.cons rfl (fun V hV K hK => ?_) AllDet.nil)
        rw [if_pos (by rfl)]
        obtain ⟨p8, c8, V8, hrun, hO8, hb8, hk8⟩ := run_appV (P := Try.prog) (d := 1) V 31 31 22 i1 (.slice none 0 0) 24 Try.underlying31 hi1 hy0 hy1 hy2 rfl (hOv.below (Bl.out' hV.1)) hV.2.2 rfl (by omega) (by unfold maxLen; omega) (Nat.le_trans hBv (Bl.out' hV.1).size)
        refine wp_app _ _ 31 rfl (.slice pq k cq) (.slice (some ⟨gs, 0, none⟩) 1 1) rfl rfl (.slice p8 (k + 1) c8) V8 hrun ?_
        have hB8 : Bv ≤ V.heap.size := Nat.le_trans hBv (Bl.out' hV.1).size
        have hgnV := hAn.below (Bl.out' hV.1)
        have hA8n : At 72 V8 gn #[.int .i64 (gen + 1), .slice p6 nb c6, .slice pq k cq] := (hb8.block gn hgnB).trans hgnV
        have hA8q : At 72 V8 gq #[.int .i64 0, .slice none 0 0, .slice none 0 0] := (hb8.block gq hgqB).trans (hAq.below (Bl.out' hV.1))
        have hO8b := (hOb.below (Bl.out' hV.1)).keptT hk8 (by decide)
        have hS8 := ((hSo.below (Bl.out' hV.1)).kept hk8 (by decide)).snoc (hV.2.1.keptT hk8 (by decide))
        have hb8w : Below w0.heap.size w0 V8 := (hbw.trans ((Bl.out' hV.1).mono hbw.size)).trans (hb8.mono hB0)
        have hB8' : Bv ≤ V8.heap.size := Nat.le_trans hB8 hb8.size
        refine hK.out (FlI w0 gn gq gen p6 nb c6 base Bv pq k cq p8 (k + 1) c8 (vq ++ [.slice p7 m0 c7]) (recs.take k ++ [y])) _ _ (FlI.stays _ _ _ _ _ _ _ _ _ _ _ _ _ _ _ _ _) (fun _ W h => h.an.cell 2) ⟨hA8n, hA8q, hO8b, hO8, hS8, hb8w, hB8'⟩ ?_
        clear hK K hV hrun hO8 hb8 hk8 hgnV hA8n hA8q hO8b hS8 hb8w hB8 hB8'
        (try simp only [Act.put, List.getElem_toArray, List.getElem_cons_zero, List.getElem_cons_succ, List.setIfInBounds_toArray, List.set_cons_zero, List.set_cons_succ])
        refine wpDet_ready (rs := [6]) (by kernel_rfl) (by simp) (AllDet.cons rfl (fun V hV K hK => ?_) AllDet.nil)
        rw [if_pos (by rfl)]
        refine wp_value (.pointer (some ⟨gn, 2, none⟩)) V (by first | (go_simp; done) | (go_simp; rfl)) ?_
        refine hK.out (FlI w0 gn gq gen p6 nb c6 base Bv pq k cq p8 (k + 1) c8 (vq ++ [.slice p7 m0 c7]) (recs.take k ++ [y])) _ _ (FlI.stays _ _ _ _ _ _ _ _ _ _ _ _ _ _ _ _ _) (fun _ W h => h.an.cell 2) hV ?_
        clear hK K hV
        (try simp only [Act.put, List.getElem_toArray, List.getElem_cons_zero, List.getElem_cons_succ, List.setIfInBounds_toArray, List.set_cons_zero, List.set_cons_succ])
        refine wpDet_ready (rs := [7]) (by kernel_rfl) (by simp) (AllDet.cons rfl (fun V hV K hK => ?_) AllDet.nil)
        rw [if_pos (by rfl)]
        refine wp_store_slice _ _ _ rfl gn 2 p8 (k + 1) c8 _ rfl rfl sizeSlV (hV.an.cell 2) (hV.an.free 2) ?_
        have hE : Ex gn V (V.setCell ⟨gn, 2, none⟩ (.slice p8 (k + 1) c8)) := (Ex.refl gn V).setCell 2 _
        have hz := hV.put hE hgnq hgnB hw0n
        refine hK.out (FlI w0 gn gq gen p6 nb c6 base Bv p8 (k + 1) c8 p8 (k + 1) c8 (vq ++ [.slice p7 m0 c7]) (recs.take k ++ [y])) _ _ (FlI.stays _ _ _ _ _ _ _ _ _ _ _ _ _ _ _ _ _) (no_lean (by kernel_rfl)) hz ?_
        clear hK K hV hE hz
        (try simp only [Act.put, List.getElem_toArray, List.getElem_cons_zero, List.getElem_cons_succ, List.setIfInBounds_toArray, List.set_cons_zero, List.set_cons_succ])
        refine wpDet_done (by kernel_rfl) (fun W6 hW6 => ?_) _
        obtain ⟨hAn6, hAq6, hOb6, hOv6, hSo6, hbw6, hBv6⟩ := hW6
        clear hAn hAq hOb hOv hSo hbw hBv hS5 hS5w hck hvw hww
        go_wp2_with fail
        go_roundw
        case rel => exact ⟨k + 1, p8, c8, vq ++ [.slice p7 m0 c7], by omega, by go_num, ⟨hAn6, hAq6, hOb6, hOv6, by rw [HTK.out]; exact hSo6, hbw6, hBv6⟩⟩
        case measure => simp [intOf]; omega
      · have hki : ¬ (k : Int) < (nr : Int) := by omega
        have et : recs.take k = recs := List.take_of_length_le (by rw [← HN.out]; omega)
        have Hkk : Hid (k = recs.length) := by show _ = _; rw [← HN.out]; omega
        rw [et] at hSo
        obtain ⟨x0, x1, x2⟩ := hAn.three
        obtain ⟨z0, z1, z2⟩ := hAq.three
        have f0 := hAq.free 0
        have f1 := hAq.free 1
        have f2 := hAq.free 2
        have hGz := At.put3 hAq (.int .i64 (gen + 1)) (.slice p6 nb c6) (.slice pq k cq)
        have hEz : Ex gq wr (((wr.setCell ⟨gq, 0, none⟩ (.int .i64 (gen + 1))).setCell ⟨gq, 1, none⟩ (.slice p6 nb c6)).setCell ⟨gq, 2, none⟩ (.slice pq k cq)) := (((Ex.refl gq wr).setCell 0 _).setCell 1 _).setCell 2 _
        have hObz := hOb.exT hAq hEz (by decide)
        have hOvz := hOv.exT hAq hEz (by decide)
        have hSoz := hSo.exT hAq hEz (by decide)
        have hbz : Below w.heap.size w (((wr.setCell ⟨gq, 0, none⟩ (.int .i64 (gen + 1))).setCell ⟨gq, 1, none⟩ (.slice p6 nb c6)).setCell ⟨gq, 2, none⟩ (.slice pq k cq)) := (hbaw.trans (hbw.mono hbaw.size)).trans (hEz.below (by rw [HGQ2.out]; exact Nat.le_refl _) hAq.lt)
        clear hAn hAq hOb hOv hSo hEz
        go_wp2_with fail
        refine bodyPost_ret (results_reel1 (p := 6) rfl _ _ gq _ _ _ rfl hGz) rfl ⟨⟨_, rfl, p6, nb, c6, pq, cq, vq, ?_, hObz.lower hbaw.size, ?_, hSoz.lower ?_⟩, hbz⟩
        · show Value.agg #[_, _, _] = Value.agg #[_, _, _]
          rw [Hkk.out]
        · show OwV _ _ _ _ recs.length _ _
          rw [← Hkk.out]
          exact hOvz.lowerB (Nat.le_trans hbaw.size hB0)
        · exact Nat.le_trans hbaw.size hB0
  · rw [if_pos (by rfl)]
    refine wp_value (.pointer (some ⟨V.heap.size, 0, none⟩)) (V.alloc (.cells #[.int .i64 0, .slice none 0 0, .slice none 0 0] 72)) (by first | (go_simp; done) | (go_simp; rfl)) ?_
    have hba := below_alloc V (.cells #[.int .i64 0, .slice none 0 0, .slice none 0 0] 72)
    have hA8 := At.new 72 V #[.int .i64 0, .slice none 0 0, .slice none 0 0]
    have hb5 := Bl.stays w0 V _ hV hba
    have hgn : w0.heap.size ≤ V.heap.size := (Bl.out' hV).size
    obtain ⟨gn, hgne⟩ : ∃ z, z = V.heap.size := ⟨_, rfl⟩
    rw [← hgne] at hA8 hgn ⊢
    refine hK.out (fun W => Bl w0 W ∧ True ∧ At 72 W gn #[.int .i64 0, .slice none 0 0, .slice none 0 0]) _ _ (fun W W' h hb => ⟨Bl.stays w0 W W' h.1 hb, h.2.1, h.2.2.below hb⟩) (fun _ W h => hS0w W h.1) ⟨hb5, trivial, hA8⟩ ?_
    clear hK K hV hba hA8 hb5 hgne
    (try simp only [Act.put, List.getElem_toArray, List.getElem_cons_zero, List.getElem_cons_succ, List.setIfInBounds_toArray, List.set_cons_zero, List.set_cons_succ])
    refine wpDet_ready (rs := [6]) (by kernel_rfl) (by simp) (AllDet.cons rfl (fun V hV K hK => ?_) AllDet.nil)
    rw [if_pos (by rfl)]
    have hC := bcloneO pb nb cb base V (hbr.below (Bl.out' hV.1)) (by omega)
    refine wp_enterX 61 #[.slice pb nb cb] (by first | (go_simp; done) | (go_simp; rfl)) (fun v V' => ∃ p' c', v = .slice p' nb c' ∧ Ow .u8 5 V' V.heap.size p' nb c' base ∧ Below V.heap.size V V') (hC.mono fun e V' ⟨p', c', h1, h2, h3⟩ => ⟨_, h1, p', c', rfl, h2, h3⟩) ?_
    rintro v V' ⟨p6, c6, rfl, ho6, hb6⟩
    refine hK.out (fun W => Bl w0 W ∧ Ow .u8 5 W w0.heap.size p6 nb c6 base ∧ At 72 W gn #[.int .i64 0, .slice none 0 0, .slice none 0 0]) _ _ (fun W W' h hb => ⟨Bl.stays w0 W W' h.1 hb, h.2.1.below hb, h.2.2.below hb⟩) (fun _ W h => hS0w W h.1) ⟨Bl.stays w0 V V' hV.1 hb6, ho6.lower (Bl.out' hV.1).size, hV.2.2.below hb6⟩ ?_
    clear hK K hC hV ho6 hb6
    (try simp only [Act.put, List.getElem_toArray, List.getElem_cons_zero, List.getElem_cons_succ, List.setIfInBounds_toArray, List.set_cons_zero, List.set_cons_succ])
    refine wpDet_take ?vU7 (fun W W' h hb => ⟨Bl.stays w0 W W' h.1 hb, h.2.1.below hb, h.2.2.below hb⟩) (fun W h => hS0w W h.1) (i := 7) rfl (by kernel_rfl) (by kernel_rfl) (by kernel_rfl) (by kernel_rfl) (fun _ _ _ h => h) (Gives.value (by rfl) ?yU7) ?rU7
    case yU7 => (intro w' hSw; go_simp; try with_reducible rfl)
    (try simp only [Act.put, List.getElem_toArray, List.getElem_cons_zero, List.getElem_cons_succ, List.setIfInBounds_toArray, List.set_cons_zero, List.set_cons_succ])
    refine wpDet_ready (rs := [9]) (by kernel_rfl) (by simp) (AllDet.cons rfl (fun V hV K hK => ?_) AllDet.nil)
    rw [if_pos (by rfl)]
    have hth : V.there gn 0 3 := fun j hj => by
      rw [Nat.zero_add]
      refine ⟨?_, hV.2.2.free j⟩
      match j, hj with
      | 0, _ => rw [hV.2.2.cell 0]; rfl
      | 1, _ => rw [hV.2.2.cell 1]; rfl
      | 2, _ => rw [hV.2.2.cell 2]; rfl
    refine wp_store_mid 72 _ _ rfl gn 0 #[.int .i64 (gen + 1), .slice p6 nb c6, .slice none 0 0] rfl rfl hth sizeR (by simp [Value.oneCell']) ?_
    have hA9 : At 72 (V.setCells gn 0 (#[.int .i64 (gen + 1), .slice p6 nb c6, .slice none 0 0] : Array Value).toList) gn #[.int .i64 (gen + 1), .slice p6 nb c6, .slice none 0 0] := At.put3 hV.2.2 _ _ _
    have hE9 : Ex gn V (V.setCells gn 0 (#[.int .i64 (gen + 1), .slice p6 nb c6, .slice none 0 0] : Array Value).toList) := (((Ex.refl gn V).setCell 0 _).setCell 1 _).setCell 2 _
    have hO9 := hV.2.1.exT hV.2.2 hE9 (by decide)
    have hb9 : Below w0.heap.size w0 (V.setCells gn 0 (#[.int .i64 (gen + 1), .slice p6 nb c6, .slice none 0 0] : Array Value).toList) := (Bl.out' hV.1).trans (hE9.below hgn hV.2.2.lt)
    refine hK.out (fun W => Bl w0 W ∧ Ow .u8 5 W w0.heap.size p6 nb c6 base ∧ At 72 W gn #[.int .i64 (gen + 1), .slice p6 nb c6, .slice none 0 0]) _ _ (fun W W' h hb => ⟨Bl.stays w0 W W' h.1 hb, h.2.1.below hb, h.2.2.below hb⟩) (no_lean (by kernel_rfl)) ⟨hb9, hO9, hA9⟩ ?_
    clear hK K hV hth hA9 hE9 hO9 hb9
    (try simp only [Act.put, List.getElem_toArray, List.getElem_cons_zero, List.getElem_cons_succ, List.setIfInBounds_toArray, List.set_cons_zero, List.set_cons_succ])
    refine wpDet_done (by kernel_rfl) (fun W1 hW1 => ?_) _
    obtain ⟨hbW1', hO1, hA1⟩ := hW1
    have hbW1 := Bl.out' hbW1'
    have hq1 := hGq.below hbW1
    have hgnq : gn ≠ gq := by have := HGQ.out; omega
    have hw0n : w0.heap.size ≤ gn := hgn
    obtain ⟨Bv, HBv⟩ : ∃ z, z = W1.heap.size := ⟨_, rfl⟩
    have hgnB : gn < Bv := by rw [HBv]; exact hA1.lt
    have hgqB : gq < Bv := by rw [HBv]; exact hq1.lt
    have hB0 : w0.heap.size ≤ Bv := by rw [HBv]; exact hbW1.size
    have hst : FlI w0 gn gq gen p6 nb c6 base Bv none 0 0 none 0 0 [] (recs.take 0) W1 := ⟨hA1, hq1, hO1, OwV.empty _ _ _ _, Slo.nil _ _ _, hbW1, by rw [HBv]; exact Nat.le_refl _⟩
    clear hO1 hA1 hbW1' HBv hq1
    go_wp2_with fail
    go_loopw [20] (fun ix wr => ∃ (k : Nat) (pq : Option Addr) (cq : Nat) (vq : List Value), k ≤ nr ∧ ix = .int .i64 k ∧ FlI w0 gn gq gen p6 nb c6 base Bv pq k cq pq k cq vq (recs.take k) wr) (fun ix _ => nr - (intOf ix).toNat)
    case atStart => exact ⟨0, none, 0, [], Nat.zero_le _, rfl, hst⟩
    case round =>
      clear hst
      obtain ⟨k, pq, cq, vq, hk, rfl, ⟨hAn, hAq, hOb, hOv, hSo, hbw, hBv⟩⟩ := hrel
      by_cases hkn : k < nr
      · have hki : (k : Int) < (nr : Int) := by omega
        have hww : Below w0.heap.size w0 wr := hbw
        have hvw := hv.below hww
        obtain ⟨bv, ov, hpe, hcv⟩ := hvw.cells (by omega)
        subst hpe
        have hck := hcv k hkn
        obtain ⟨q0, m0, e0, hq0, hr0⟩ := (hs.below hww).2 k (by rw [hv.len]; exact hkn)
        rw [hq0] at hck
        have hl0 := hrec k (by rw [← HN.out]; exact hkn)
        have hm0 : m0 ≤ 8192 := by rw [← hr0.len]; exact hl0
        have HTK : Hid (recs.take (k + 1) = recs.take k ++ [recs.getD k []]) := take_snocV (by rw [← HN.out]; exact hkn)
        generalize recs.getD k [] = y at *
        have hS5w : ∀ W, Bl wr W → W.cell? ⟨gn, 2, none⟩ = some (.slice pq k cq) := fun W h => (hAn.below (Bl.out' h)).cell 2
        have hS5 : Bl wr wr.drew := (Below.refl _ _).drew
        clear hcv
        go_wp2_with fail
        refine wp_region_det [0, 1, 2] (fun W => W.cell? ⟨gn, 2, none⟩ = some (.slice pq k cq)) (Bl wr) (by kernel_rfl) hS5 ?_
        refine wpDet_take ?vM0 (Bl.stays wr) hS5w (i := 0) rfl (by kernel_rfl) (by kernel_rfl) (by kernel_rfl) (by kernel_rfl) (fun _ _ _ h => h) (Gives.value (by rfl) ?yM0) ?rM0
        case yM0 => (intro w' hSw; go_simp; try with_reducible rfl)
        (try simp only [Act.put, List.getElem_toArray, List.getElem_cons_zero, List.getElem_cons_succ, List.setIfInBounds_toArray, List.set_cons_zero, List.set_cons_succ])
        refine wpDet_take ?vM1 (Bl.stays wr) hS5w (i := 1) rfl (by kernel_rfl) (by kernel_rfl) (by kernel_rfl) (by kernel_rfl) (fun _ _ _ h => h) (Gives.value (by rfl) ?yM1) ?rM1
        case yM1 => (intro w' hSw; have hz0 := hSw; go_simp; try with_reducible rfl)
        (try simp only [Act.put, List.getElem_toArray, List.getElem_cons_zero, List.getElem_cons_succ, List.setIfInBounds_toArray, List.set_cons_zero, List.set_cons_succ])
        refine wpDet_take ?vM2 (Bl.stays wr) hS5w (i := 2) rfl (by kernel_rfl) (by kernel_rfl) (by kernel_rfl) (by kernel_rfl) (fun _ _ _ h => h) (Gives.value (by rfl) ?yM2) ?rM2
        case yM2 => (intro w' hSw; go_simp; try with_reducible rfl)
        (try simp only [Act.put, List.getElem_toArray, List.getElem_cons_zero, List.getElem_cons_succ, List.setIfInBounds_toArray, List.set_cons_zero, List.set_cons_succ])
        refine wpDet_ready (rs := [3]) (by kernel_rfl) (by simp) (AllDet.cons rfl (fun V hV K hK => ?_) AllDet.nil)
        rw [if_pos (by rfl)]
        have hC := bcloneO q0 m0 e0 y V (hr0.below (Bl.out' hV)) (by omega)
        refine wp_enterX 61 #[.slice q0 m0 e0] (by first | (go_simp; done) | (go_simp; rfl)) (fun v V' => ∃ p' c', v = .slice p' m0 c' ∧ Ow .u8 5 V' V.heap.size p' m0 c' y ∧ Below V.heap.size V V') (hC.mono fun e V' ⟨p', c', h1, h2, h3⟩ => ⟨_, h1, p', c', rfl, h2, h3⟩) ?_
        rintro v V' ⟨p7, c7, rfl, ho7, hb7⟩
        refine hK.out (fun W => Bl wr W ∧ Ow .u8 5 W Bv p7 m0 c7 y) _ _ (fun W W' h hb => ⟨Bl.stays wr W W' h.1 hb, h.2.below hb⟩) (fun _ W h => hS5w W h.1) ⟨Bl.stays wr V V' hV hb7, ho7.lower (Nat.le_trans hBv (Bl.out' hV).size)⟩ ?_
        clear hK K hC hV ho7 hb7
        (try simp only [Act.put, List.getElem_toArray, List.getElem_cons_zero, List.getElem_cons_succ, List.setIfInBounds_toArray, List.set_cons_zero, List.set_cons_succ])
        refine wpDet_ready (rs := [4]) (by kernel_rfl) (by simp) (AllDet.cons rfl (fun V hV K hK => ?_) AllDet.nil)
        rw [if_pos (by rfl)]
        refine wp_value (.slice (some ⟨V.heap.size, 0, none⟩) 1 1) (V.alloc (.cells #[.slice p7 m0 c7] 22)) (by first | (go_simp; done) | (go_simp; rfl)) ?_
        have hba := below_alloc V (.cells #[.slice p7 m0 c7] 22)
        have hA8 := At.new 22 V #[.slice p7 m0 c7]
        obtain ⟨gs, hgs⟩ : ∃ z, z = V.heap.size := ⟨_, rfl⟩
        rw [← hgs] at hA8 ⊢
        refine hK.out (fun W => Bl wr W ∧ Ow .u8 5 W Bv p7 m0 c7 y ∧ W.cell? ⟨gs, 0, none⟩ = some (.slice p7 m0 c7)) _ _ (fun W W' h hb => ⟨Bl.stays wr W W' h.1 hb, h.2.1.below hb, cell_below hb h.2.2⟩) (fun _ W h => hS5w W h.1) ⟨Bl.stays wr V _ hV.1 hba, hV.2.below hba, hA8.cell 0⟩ ?_
        clear hK K hV hba hA8 hgs
        (try simp only [Act.put, List.getElem_toArray, List.getElem_cons_zero, List.getElem_cons_succ, List.setIfInBounds_toArray, List.set_cons_zero, List.set_cons_succ])
        refine wpDet_ready (rs := [5]) (by kernel_rfl) (by simp) (AllDet.cons rfl (fun V hV K hK => ?_) AllDet.nil)
        rw [if_pos (by rfl)]
        obtain ⟨p8, c8, V8, hrun, hO8, hb8, hk8⟩ := run_appV (P := Try.prog) (d := 1) V 31 31 22 i1 (.slice none 0 0) 24 Try.underlying31 hi1 hy0 hy1 hy2 rfl (hOv.below (Bl.out' hV.1)) hV.2.2 rfl (by omega) (by unfold maxLen; omega) (Nat.le_trans hBv (Bl.out' hV.1).size)
        refine wp_app _ _ 31 rfl (.slice pq k cq) (.slice (some ⟨gs, 0, none⟩) 1 1) rfl rfl (.slice p8 (k + 1) c8) V8 hrun ?_
        have hB8 : Bv ≤ V.heap.size := Nat.le_trans hBv (Bl.out' hV.1).size
        have hgnV := hAn.below (Bl.out' hV.1)
        have hA8n : At 72 V8 gn #[.int .i64 (gen + 1), .slice p6 nb c6, .slice pq k cq] := (hb8.block gn hgnB).trans hgnV
        have hA8q : At 72 V8 gq #[.int .i64 0, .slice none 0 0, .slice none 0 0] := (hb8.block gq hgqB).trans (hAq.below (Bl.out' hV.1))
        have hO8b := (hOb.below (Bl.out' hV.1)).keptT hk8 (by decide)
        have hS8 := ((hSo.below (Bl.out' hV.1)).kept hk8 (by decide)).snoc (hV.2.1.keptT hk8 (by decide))
        have hb8w : Below w0.heap.size w0 V8 := (hbw.trans ((Bl.out' hV.1).mono hbw.size)).trans (hb8.mono hB0)
        have hB8' : Bv ≤ V8.heap.size := Nat.le_trans hB8 hb8.size
        refine hK.out (FlI w0 gn gq gen p6 nb c6 base Bv pq k cq p8 (k + 1) c8 (vq ++ [.slice p7 m0 c7]) (recs.take k ++ [y])) _ _ (FlI.stays _ _ _ _ _ _ _ _ _ _ _ _ _ _ _ _ _) (fun _ W h => h.an.cell 2) ⟨hA8n, hA8q, hO8b, hO8, hS8, hb8w, hB8'⟩ ?_
        clear hK K hV hrun hO8 hb8 hk8 hgnV hA8n hA8q hO8b hS8 hb8w hB8 hB8'
        (try simp only [Act.put, List.getElem_toArray, List.getElem_cons_zero, List.getElem_cons_succ, List.setIfInBounds_toArray, List.set_cons_zero, List.set_cons_succ])
        refine wpDet_ready (rs := [6]) (by kernel_rfl) (by simp) (AllDet.cons rfl (fun V hV K hK => ?_) AllDet.nil)
        rw [if_pos (by rfl)]
        refine wp_value (.pointer (some ⟨gn, 2, none⟩)) V (by first | (go_simp; done) | (go_simp; rfl)) ?_
        refine hK.out (FlI w0 gn gq gen p6 nb c6 base Bv pq k cq p8 (k + 1) c8 (vq ++ [.slice p7 m0 c7]) (recs.take k ++ [y])) _ _ (FlI.stays _ _ _ _ _ _ _ _ _ _ _ _ _ _ _ _ _) (fun _ W h => h.an.cell 2) hV ?_
        clear hK K hV
        (try simp only [Act.put, List.getElem_toArray, List.getElem_cons_zero, List.getElem_cons_succ, List.setIfInBounds_toArray, List.set_cons_zero, List.set_cons_succ])
        refine wpDet_ready (rs := [7]) (by kernel_rfl) (by simp) (AllDet.cons rfl (fun V hV K hK => ?_) AllDet.nil)
        rw [if_pos (by rfl)]
        refine wp_store_slice _ _ _ rfl gn 2 p8 (k + 1) c8 _ rfl rfl sizeSlV (hV.an.cell 2) (hV.an.free 2) ?_
        have hE : Ex gn V (V.setCell ⟨gn, 2, none⟩ (.slice p8 (k + 1) c8)) := (Ex.refl gn V).setCell 2 _
        have hz := hV.put hE hgnq hgnB hw0n
        refine hK.out (FlI w0 gn gq gen p6 nb c6 base Bv p8 (k + 1) c8 p8 (k + 1) c8 (vq ++ [.slice p7 m0 c7]) (recs.take k ++ [y])) _ _ (FlI.stays _ _ _ _ _ _ _ _ _ _ _ _ _ _ _ _ _) (no_lean (by kernel_rfl)) hz ?_
        clear hK K hV hE hz
        (try simp only [Act.put, List.getElem_toArray, List.getElem_cons_zero, List.getElem_cons_succ, List.setIfInBounds_toArray, List.set_cons_zero, List.set_cons_succ])
        refine wpDet_done (by kernel_rfl) (fun W6 hW6 => ?_) _
        obtain ⟨hAn6, hAq6, hOb6, hOv6, hSo6, hbw6, hBv6⟩ := hW6
        clear hAn hAq hOb hOv hSo hbw hBv hS5 hS5w hck hvw hww
        go_wp2_with fail
        go_roundw
        case rel => exact ⟨k + 1, p8, c8, vq ++ [.slice p7 m0 c7], by omega, by go_num, ⟨hAn6, hAq6, hOb6, hOv6, by rw [HTK.out]; exact hSo6, hbw6, hBv6⟩⟩
        case measure => simp [intOf]; omega
      · have hki : ¬ (k : Int) < (nr : Int) := by omega
        have et : recs.take k = recs := List.take_of_length_le (by rw [← HN.out]; omega)
        have Hkk : Hid (k = recs.length) := by show _ = _; rw [← HN.out]; omega
        rw [et] at hSo
        obtain ⟨x0, x1, x2⟩ := hAn.three
        obtain ⟨z0, z1, z2⟩ := hAq.three
        have f0 := hAq.free 0
        have f1 := hAq.free 1
        have f2 := hAq.free 2
        have hGz := At.put3 hAq (.int .i64 (gen + 1)) (.slice p6 nb c6) (.slice pq k cq)
        have hEz : Ex gq wr (((wr.setCell ⟨gq, 0, none⟩ (.int .i64 (gen + 1))).setCell ⟨gq, 1, none⟩ (.slice p6 nb c6)).setCell ⟨gq, 2, none⟩ (.slice pq k cq)) := (((Ex.refl gq wr).setCell 0 _).setCell 1 _).setCell 2 _
        have hObz := hOb.exT hAq hEz (by decide)
        have hOvz := hOv.exT hAq hEz (by decide)
        have hSoz := hSo.exT hAq hEz (by decide)
        have hbz : Below w.heap.size w (((wr.setCell ⟨gq, 0, none⟩ (.int .i64 (gen + 1))).setCell ⟨gq, 1, none⟩ (.slice p6 nb c6)).setCell ⟨gq, 2, none⟩ (.slice pq k cq)) := (hbaw.trans (hbw.mono hbaw.size)).trans (hEz.below (by rw [HGQ2.out]; exact Nat.le_refl _) hAq.lt)
        clear hAn hAq hOb hOv hSo hEz
        go_wp2_with fail
        refine bodyPost_ret (results_reel1 (p := 6) rfl _ _ gq _ _ _ rfl hGz) rfl ⟨⟨_, rfl, p6, nb, c6, pq, cq, vq, ?_, hObz.lower hbaw.size, ?_, hSoz.lower ?_⟩, hbz⟩
        · show Value.agg #[_, _, _] = Value.agg #[_, _, _]
          rw [Hkk.out]
        · show OwV _ _ _ _ recs.length _ _
          rw [← Hkk.out]
          exact hOvz.lowerB (Nat.le_trans hbaw.size hB0)
        · exact Nat.le_trans hbaw.size hB0

end Go.Proofs.Ytpjhadaiodnnaaa.M

namespace Go.Proofs.Ytpjhadaiodnnaaa.M
open Go.ChangeShapes Go.WideShapes Go.ChangeAt Go.RowKit

/-- Are all records short? -/
def shortV (recs : List (List Int)) : Bool := recs.all fun y => decide (y.length ≤ 8192)

theorem shortV_get {recs : List (List Int)} (h : shortV recs = true) : ∀ i, i < recs.length → (recs.getD i []).length ≤ 8192 := fun i hi => by
  unfold shortV at h
  rw [List.all_eq_true] at h
  rw [List.getD_eq_getElem?_getD, List.getElem?_eq_getElem hi]
  exact of_decide_eq_true (h _ (List.getElem_mem hi))

theorem shortV_no {recs : List (List Int)} {k : Nat} (hk : k < recs.length) (h : ¬ (recs.getD k []).length ≤ 8192) : shortV recs = false := by
  cases e : shortV recs with
  | false => rfl
  | true => exact absurd (shortV_get e k hk) h

theorem shortV_yes {recs : List (List Int)} (h : ∀ i, i < recs.length → (recs.getD i []).length ≤ 8192) : shortV recs = true := by
  unfold shortV
  rw [List.all_eq_true]
  intro y hy
  obtain ⟨i, hi, rfl⟩ := List.getElem_of_mem hy
  have := h i hi
  rw [List.getD_eq_getElem?_getD, List.getElem?_eq_getElem hi] at this
  exact decide_eq_true this

set_option maxRecDepth 20000 in
theorem long_any (q : Option Addr) (m d : Nat) (w : World) : Calls Try.prog 82 #[.slice q m d] w fun e w' => e = .returned (.bool (decide (8192 < m))) ∧ w' = w := by
  have hd : decide ((8192 : Int) < (m : Int)) = decide (8192 < m) := by
    by_cases h : 8192 < m
    · rw [decide_eq_true h, decide_eq_true (by omega)]
    · rw [decide_eq_false h, decide_eq_false (by omega)]
  go_enter Try.func82, Try.ntmps82
  go_wp2_with fail
  go_ret
  exact ⟨by simp, rfl⟩

set_option maxRecDepth 20000 in
set_option maxHeartbeats 2000000 in
theorem index_any (pr : Option Addr) (nr cr : Nat) (vs : List Value) (recs : List (List Int)) (w : World) (hv : RdV w pr nr cr vs) (hs : Sls w vs recs) (hnr : nr = recs.length) (hfew : nr ≤ 1000000) :
    Calls Try.prog 100 #[.slice pr nr cr, .func (.func 82) #[] #[]] w fun e w' => (∃ z : Int, e = .returned (.int .i64 z) ∧ decide (0 ≤ z) = !shortV recs) ∧ Below w.heap.size w w' := by
  have HN : Hid (nr = recs.length) := hnr
  clear hnr
  go_enter Try.func100, Try.ntmps100
  go_wp2_with fail
  go_loopw [8] (fun ix wr => ∃ k : Nat, k ≤ nr ∧ ix = .int .i64 k ∧ Hid (∀ i, i < k → (recs.getD i []).length ≤ 8192) ∧ wr = w) (fun ix _ => nr - (intOf ix).toNat)
  case atStart => exact ⟨0, Nat.zero_le _, rfl, fun _ h => absurd h (Nat.not_lt_zero _), rfl⟩
  case round =>
    obtain ⟨k, hk, rfl, HA, rfl⟩ := hrel
    by_cases hkn : k < nr
    · have hki : (k : Int) < (nr : Int) := by omega
      obtain ⟨bv, ov, hpe, hcv⟩ := hv.cells (by omega)
      subst hpe
      have hck := hcv k hkn
      obtain ⟨q0, m0, e0, hq0, hr0⟩ := hs.2 k (by rw [hv.len]; exact hkn)
      rw [hq0] at hck
      have hL := long_any q0 m0 e0 wr
      have hl0 := hr0.len
      clear hcv
      by_cases hm : 8192 < m0
      · rw [decide_eq_true hm] at hL
        have HB : Hid (shortV recs = false) := shortV_no (k := k) (by rw [← HN.out]; exact hkn) (by omega)
        go_wp2_with fail
        refine hL.mono ?_
        rintro e w1 ⟨rfl, hw⟩
        subst hw
        go_wp2_with fail
        go_ret
        refine ⟨⟨k, rfl, ?_⟩, Below.refl _ _⟩
        rw [HB.out, decide_eq_true (by omega)]
        rfl
      · rw [decide_eq_false hm] at hL
        have HA2 : Hid (∀ i, i < k + 1 → (recs.getD i []).length ≤ 8192) := fun i hi => by
          rcases Nat.lt_or_ge i k with h | h
          · exact HA.out i h
          · obtain rfl : i = k := by omega
            omega
        clear hl0 hr0 hq0
        go_wp2_with fail
        refine hL.mono ?_
        rintro e w1 ⟨rfl, hw⟩
        subst hw
        go_wp2_with fail
        go_roundw
        case rel => exact ⟨k + 1, by omega, by go_num, HA2, trivial⟩
        case measure => simp [intOf]; omega
    · have hki : ¬ (k : Int) < (nr : Int) := by omega
      have HB : Hid (shortV recs = true) := shortV_yes fun i hi => HA.out i (by rw [← HN.out] at hi; omega)
      go_wp2_with fail
      go_ret
      refine ⟨⟨-1, rfl, ?_⟩, Below.refl _ _⟩
      rw [HB.out]
      rfl

set_option maxRecDepth 20000 in
theorem contains_any (pr : Option Addr) (nr cr : Nat) (vs : List Value) (recs : List (List Int)) (w : World) (hv : RdV w pr nr cr vs) (hs : Sls w vs recs) (hnr : nr = recs.length) (hfew : nr ≤ 1000000) :
    Calls Try.prog 83 #[.slice pr nr cr, .func (.func 82) #[] #[]] w fun e w' => e = .returned (.bool (!shortV recs)) ∧ Below w.heap.size w w' := by
  have hI := index_any pr nr cr vs recs w hv hs hnr hfew
  clear hv hs hnr
  go_enter Try.func83, Try.ntmps83
  go_wp2_with fail
  refine hI.mono ?_
  rintro e w1 ⟨⟨z, rfl, hz⟩, hb⟩
  go_wp2_with fail
  go_ret
  exact ⟨by simp, hb⟩

/-- Does a reel have room for these? -/
def fitsR (nb : Nat) (recs : List (List Int)) : Bool := decide (nb ≤ 8176) && shortV recs

set_option maxRecDepth 20000 in
theorem fits_any (pb : Option Addr) (nb cb : Nat) (pr : Option Addr) (nr cr : Nat) (vs : List Value) (recs : List (List Int)) (w : World) (hv : RdV w pr nr cr vs) (hs : Sls w vs recs) (hnr : nr = recs.length) (hfew : nr ≤ 1000000) :
    Calls Try.prog 55 #[.slice pb nb cb, .slice pr nr cr] w fun e w' => e = .returned (.bool (fitsR nb recs)) ∧ Below w.heap.size w w' := by
  have hC := contains_any pr nr cr vs recs w hv hs hnr hfew
  clear hv hs hnr
  by_cases hn : nb ≤ 8176
  · have hd : decide ((nb : Int) ≤ 8176) = true := decide_eq_true (by omega)
    have HF : Hid (fitsR nb recs = shortV recs) := by show _ = _; unfold fitsR; rw [decide_eq_true hn, Bool.true_and]
    clear hn
    go_enter Try.func55, Try.ntmps55
    go_wp2_with fail
    refine hC.mono ?_
    rintro e w1 ⟨rfl, hb⟩
    go_wp2_with fail
    go_ret
    exact ⟨by rw [HF.out]; simp, hb⟩
  · have hd : decide ((nb : Int) ≤ 8176) = false := decide_eq_false (by omega)
    have HF : Hid (fitsR nb recs = false) := by show _ = _; unfold fitsR; rw [decide_eq_false hn, Bool.false_and]
    clear hn
    go_enter Try.func55, Try.ntmps55
    go_wp2_with fail
    go_ret
    exact ⟨by rw [HF.out]; rfl, Below.refl _ _⟩

end Go.Proofs.Ytpjhadaiodnnaaa.M

namespace Go.Proofs.Ytpjhadaiodnnaaa.M
open Go.ChangeShapes Go.WideShapes Go.ChangeAt Go.RowKit

set_option maxRecDepth 20000 in
theorem Read_O (w : World) (B : Nat) (own : Nat → Nat) (a g : Nat) (d : Dk) (m : PD) (h : DA w B own a g d m) (hr : 0 < m.room) (hw : m.down = false) (hm : m.few) (i : Nat) (hi : i < 8) :
    Calls Try.prog 46 #[.pointer (some ⟨g, 0, none⟩), .int .i64 i] w fun e w' => ∃ p' c', e = .returned (.tuple #[.slice p' (m.f i).told.length c', .int .i64 0]) ∧ Ow .u8 5 w' w.heap.size p' (m.f i).told.length c' (m.f i).told ∧ Below w.heap.size w w' := by
  have hF := file_ok w g d h.dc (by rw [h.room]; exact hr) (h.down.trans hw) i hi
  have hct := h.dc.told hi
  have htn := fl_tn h hi
  have hC := bcloneO _ _ _ _ w (h.fm i hi).told.rd (by rw [htn]; have := hm.told i hi; omega)
  rw [htn] at hC hct
  clear h htn
  generalize (m.f i).told = xs at *
  generalize hln : xs.length = n at *
  clear hln
  generalize d.fl i = fl at *
  obtain ⟨tp, tn, tc, lp, ln, lc, cl⟩ := fl
  dsimp only at *
  go_enter Try.func46, Try.ntmps46
  go_wp2_with fail
  refine hF.mono ?_
  rintro e w1 ⟨rfl, rfl⟩
  go_wp2_with fail
  refine hC.mono ?_
  rintro e w2 ⟨p', c', rfl, h1, h2⟩
  go_wp2_with fail
  go_ret2
  exact ⟨p', c', rfl, h1, h2⟩

/-- Without a fuse. -/
theorem act0 {m : PD} (h : m.left = 0) (n : Nat) (X : Nat → Nat → PF) : m.act n X = { m with f := X n } := by unfold PD.act; rw [if_pos h]

theorem gone0 {m : PD} (h : m.left = 0) (n : Nat) : goneE (m.gone n) = 0 := by
  unfold PD.gone goneE
  rw [decide_eq_false (by omega)]
  rfl

theorem few_up {m : PD} (h : m.few) (i : Nat) (x : PF) (h1 : x.told.length ≤ 549755813888) (h2 : x.lasts.length ≤ 549755813888) : ({ m with f := upP m.f i x } : PD).few :=
  ⟨fun j hj => by
    show (upP m.f i x j).told.length ≤ _
    unfold upP
    split
    · exact h1
    · exact h.told j hj, fun j hj => by
    show (upP m.f i x j).lasts.length ≤ _
    unfold upP
    split
    · exact h2
    · exact h.lasts j hj, h.keep, h.left⟩

theorem upP_up (f : Nat → PF) (i : Nat) (x y : PF) : upP (upP f i x) i y = upP f i y := by
  funext k
  unfold upP
  split <;> rfl

theorem Ch.then {S T : Nat → Prop} {a b c : World} (h : Ch S a b) (k : Ch T b c) (hs : ∀ j, j < a.heap.size → T j → S j) : Ch S a c :=
  ⟨k.os.trans h.os, k.tape.trans h.tape, k.output.trans h.output, Nat.le_trans h.size k.size, fun j hj hn => (k.block j (Nat.lt_of_lt_of_le hj h.size) (fun e => hn (hs j hj e))).trans (h.block j hj hn)⟩

set_option maxRecDepth 20000 in
set_option maxHeartbeats 2000000 in
theorem write_ok (w : World) (B : Nat) (own : Nat → Nat) (a g : Nat) (d : Dk) (m : PD) (h : DA w B own a g d m) (hr : 0 < m.room) (hrm : m.room ≤ 4194304) (hw : m.down = false) (hm : m.few) (hleft : m.left = 0) (hB : B ≤ w.heap.size) (i : Nat) (hi : i < 8)
    (gt : Nat) (hT : w.cell? ⟨gt, 0, none⟩ = some (.pointer (some ⟨g, 0, none⟩))) (hgo : own gt ≠ mark a i) (hgg : gt ≠ g)
    (p : Option Addr) (n c : Nat) (bs : List Int) (hb : Rd .u8 w p n c bs) (hbo : ∀ x, p = some x → 0 < n → own x.block ≠ mark a i ∧ x.block ≠ g) (hl : n ≤ 549755813888) (hu : ({ m with f := upP m.f i ⟨[], (m.f i).lasts, true⟩ } : PD).used + n ≤ m.room) :
    Calls Try.prog 57 #[.pointer (some ⟨gt, 0, none⟩), .int .i64 i, .slice p n c] w fun e w' => e = .returned (.int .i64 0) ∧ ∃ own2 d2, DA w' B own2 a g d2 { m with f := upP m.f i ⟨bs, bs, false⟩ } ∧ (∀ k, k < w.heap.size → own2 k = own k) ∧ Ch (fun k => k = g ∨ own k = mark a i) w w' := by
  have hC := Clear_ok w B own a g d m h hr hw hm i hi
  rw [act0 hleft, gone0 hleft] at hC
  have hgl : gt < w.heap.size := World.block_lt_of_cell? _ _ hT
  have hnS : ∀ k, own k ≠ mark a i → k ≠ g → ¬ (k = g ∨ own k = mark a i) := fun k h1 h2 e => e.elim h2 h1
  go_enter Try.func57, Try.ntmps57
  go_wp2_with fail
  refine hC.mono ?_
  rintro e w1 ⟨rfl, own1, d1, h1, ho1, hc1⟩
  have hT1 : w1.cell? ⟨gt, 0, none⟩ = some (.pointer (some ⟨g, 0, none⟩)) := (hc1.cell hgl (hnS gt hgo hgg)).trans hT
  have hb1 : Rd .u8 w1 p n c bs := hb.ch0 hc1 fun x e h0 => hnS _ (hbo x e h0).1 (hbo x e h0).2
  have hA := Append_gen w1 B own1 a g d1 _ h1 hr hw (few_up hm i _ (Nat.zero_le _) (hm.lasts i hi)) (Nat.le_trans hB hc1.size) i hi p n c bs hb1 (fun x e h0 => (hbo x e h0).2) hl hu hrm
  rw [act0 (show ({ m with f := upP m.f i ⟨[], (m.f i).lasts, true⟩ } : PD).left = 0 from hleft), gone0 (show ({ m with f := upP m.f i ⟨[], (m.f i).lasts, true⟩ } : PD).left = 0 from hleft)] at hA
  clear hC
  go_wp2_with fail
  refine hA.mono ?_
  rintro e w2 ⟨rfl, own2, d2, h2, ho2, hc2⟩
  have hcc2 := hc1.then hc2 (fun j hj e => e.imp id (fun e => by rw [← ho1 j hj]; exact e))
  have ho2' : ∀ k, k < w.heap.size → own2 k = own k := fun k hk => (ho2 k (Nat.lt_of_lt_of_le hk hc1.size)).trans (ho1 k hk)
  have hT2 : w2.cell? ⟨gt, 0, none⟩ = some (.pointer (some ⟨g, 0, none⟩)) := (hcc2.cell hgl (hnS gt hgo hgg)).trans hT
  have hbl := hb.len
  have htk : bs.take n = bs := List.take_of_length_le (by omega)
  rw [upP_same, htk, upP_up] at h2
  dsimp only at h2
  rw [List.nil_append] at h2
  have hS := Sync_ok w2 B own2 a g d2 _ h2 hr hw (few_up hm i _ (by rw [hbl]; exact hl) (hm.lasts i hi)) i hi
  rw [act0 (show ({ m with f := upP m.f i ⟨bs, (m.f i).lasts, true⟩ } : PD).left = 0 from hleft), gone0 (show ({ m with f := upP m.f i ⟨bs, (m.f i).lasts, true⟩ } : PD).left = 0 from hleft)] at hS
  clear hA hc2 ho2
  go_wp2_with fail
  refine hS.mono ?_
  rintro e w3 ⟨rfl, own3, d3, h3, ho3, hc3⟩
  have hcc3 := hcc2.then hc3 (fun j hj e => e.imp id (fun e => by rw [← ho2' j hj]; exact e))
  rw [upP_same, upP_up] at h3
  dsimp only at h3
  clear hS
  go_wp2_with fail
  go_ret
  exact ⟨rfl, own3, d3, h3, fun k hk => (ho3 k (Nat.lt_of_lt_of_le hk hcc2.size)).trans (ho2' k hk), hcc3⟩

/-- Some mark that is no file's. -/
def farM : Nat := 1000

/-- A disk's marks, as another list of marks has them. -/
theorem DA.reown {w : World} {B : Nat} {own own' : Nat → Nat} {a g : Nat} {d : Dk} {m : PD} (h : DA w B own a g d m) (ho : ∀ k, own k = mark a 0 ∨ own k = mark a 1 ∨ own k = mark a 2 ∨ own k = mark a 3 ∨ own k = mark a 4 ∨ own k = mark a 5 ∨ own k = mark a 6 ∨ own k = mark a 7 → own' k = own k) (hg : own' g = 0) (hk : ∀ x, d.kp = some x → own' x.block = 0) (hf : ∀ k, w.heap.size ≤ k → own' k = 0) : DA w B own' a g d m := by
  have ho' : ∀ i k, i < 8 → own k = mark a i → own' k = mark a i := fun i k hi e => by
    rw [ho k ?_, e]
    match i, hi with
    | 0, _ => exact Or.inl e
    | 1, _ => exact Or.inr (Or.inl e)
    | 2, _ => exact Or.inr (Or.inr (Or.inl e))
    | 3, _ => exact Or.inr (Or.inr (Or.inr (Or.inl e)))
    | 4, _ => exact Or.inr (Or.inr (Or.inr (Or.inr (Or.inl e))))
    | 5, _ => exact Or.inr (Or.inr (Or.inr (Or.inr (Or.inr (Or.inl e)))))
    | 6, _ => exact Or.inr (Or.inr (Or.inr (Or.inr (Or.inr (Or.inr (Or.inl e))))))
    | 7, _ => exact Or.inr (Or.inr (Or.inr (Or.inr (Or.inr (Or.inr (Or.inr e))))))
    | k + 8, h => exact absurd h (by omega)
  exact ⟨h.dc, h.room, h.down, h.left, h.cl, fun i hi => ⟨(h.fm i hi).told, (h.fm i hi).lasts, fun x e => ho' i _ hi ((h.fm i hi).tg x e), fun x e => ho' i _ hi ((h.fm i hi).lg x e), (h.fm i hi).begins, (h.fm i hi).apart⟩, h.keep, hg, fun x e => ⟨hk x e, (h.ok x e).2.1, (h.ok x e).2.2⟩, h.bg, hf⟩

/-- All blocks from lo to hi are marked as another's. -/
def farO (own : Nat → Nat) (lo hi : Nat) : Nat → Nat := fun k => if lo ≤ k ∧ k < hi then farM else own k

theorem farO_low {own : Nat → Nat} {lo hi k : Nat} (h : k < lo) : farO own lo hi k = own k := if_neg (by omega)
theorem farO_in {own : Nat → Nat} {lo hi k : Nat} (h : lo ≤ k) (h2 : k < hi) : farO own lo hi k = farM := if_pos ⟨h, h2⟩

theorem far_mark {a i : Nat} (ha : a ≤ 100) (hi : i < 8) : farM ≠ mark a i := by unfold farM mark; omega

/-- What was made since is marked as another's. -/
theorem DA.marked {w w' : World} {B : Nat} {own : Nat → Nat} {a g : Nat} {d : Dk} {m : PD} (h : DA w B own a g d m) (hb : Below w.heap.size w w') : DA w' B (farO own w.heap.size w'.heap.size) a g d m := by
  have hgl : g < w.heap.size := h.dc.lt
  refine (h.below hb).reown (fun k e => ?_) ?_ (fun x e => ?_) (fun k hk => ?_)
  · unfold farO
    rw [if_neg]
    intro hk
    have h0 := h.fr k hk.1
    rw [h0] at e
    unfold mark at e
    omega
  · rw [farO_low hgl]; exact h.og
  · rw [farO_low (h.ok x e).2.2]; exact (h.ok x e).1
  · unfold farO
    rw [if_neg (by omega)]
    exact h.fr k (Nat.le_trans hb.size hk)

/-- A block of another's is written. -/
theorem DA.exF {w w' : World} {B : Nat} {own : Nat → Nat} {a g gt : Nat} {d : Dk} {m : PD} (ha : a ≤ 100) (h : DA w B own a g d m) (he : Ex gt w w') (hf : own gt = farM) (hg : gt ≠ g) : DA w' B own a g d m :=
  h.ch (S := fun k => k = gt) ⟨he.os, he.tape, he.output, he.size, fun k hk hn => he.block k hk hn⟩ (fun e => hg e.symm) (fun i k hi e e2 => far_mark ha hi (by rw [← hf, ← e2, e])) (fun x e e2 => by have h1 := (h.ok x e).1; have e3 : x.block = gt := e2; rw [e3, hf] at h1; cases h1) (fun _ _ => rfl) (fun k hk => h.fr k (Nat.le_trans he.size hk))

end Go.Proofs.Ytpjhadaiodnnaaa.M

namespace Go.Proofs.Ytpjhadaiodnnaaa.M
open Go.ChangeShapes Go.WideShapes Go.ChangeAt Go.RowKit
set_option linter.unusedSimpArgs false

theorem OwG.chC {e : TypeId} {S : Nat → Prop} {w w' : World} {B n c : Nat} {p : Option Addr} {vs : List Value} (h : OwG e w B p n c vs) (hc : Ch S w w') (hs : ∀ x, p = some x → 0 < c → ¬ S x.block) : OwG e w' B p n c vs := by
  refine ⟨⟨h.rd.len, h.rd.cap, h.rd.nil, fun hn => ?_⟩, fun h0 => ?_⟩
  · obtain ⟨b, o, e1, hcl⟩ := h.rd.cells hn
    have hcap := h.rd.cap
    refine ⟨b, o, e1, fun i hi => ?_⟩
    have h1 := hcl i hi
    rw [hc.cell (p := ⟨b, o + i, none⟩) (World.block_lt_of_cell? _ _ h1) (show ¬ S b from hs _ e1 (by omega))]
    exact h1
  · obtain ⟨b, o, cur, e1, hB, hA, hl⟩ := h.own h0
    exact ⟨b, o, cur, e1, hB, (hc.block b hA.lt (hs _ e1 h0)).trans hA, hl⟩

section
variable {P : Program} (w : World)

/-- append(s, x): s with a row of its owner's (or without room), x one value: the row grows in its place, or it is a new one. -/
theorem run_appG (t ty e : TypeId) (i : TypeInfo) (z : Value) (by_ : Nat) (ht : P.underlying t = some (.slice e)) (hi : P.info? e = some i) (hz : i.zero = some z) (hsize : i.size = 1) (hby : i.bytes = by_) (hzs : z.cells.size = 1)
    {B : Nat} {p : Option Addr} {n c : Nat} {vs : List Value} {x : Value} {b o d : Nat} (ho : OwG e w B p n c vs) (hx : w.cell? ⟨b, o, none⟩ = some x) (h1 : x.oneCell' = true) (hb : (n + 1) * by_ ≤ 140737488355328) (h63 : n + 1 ≤ maxLen) (hB : B ≤ w.heap.size) :
    ∃ p' c' w', (Builtin.append_ #[t, t] ty #[.slice p n c, .slice (some ⟨b, o, none⟩) 1 d]).run P w = .ok (.slice p' (n + 1) c') w' ∧ OwG e w' B p' (n + 1) c' (vs ++ [x]) ∧ (Grow w w' p c p' c' ∧ (c = 0 → w.grownBy w' none)) ∧ Kept e w w' := by
  have hn : ∀ j u, [x][j]? = some u → w.cell? ((⟨b, o, none⟩ : Addr).add j) = some u := by
    intro j u hj
    rw [Addr.add_lit]
    match j, hj with
    | 0, hj => cases hj; exact hx
    | j + 1, hj => cases hj
  have hl : [x].length = 1 * 1 := rfl
  have h1' : ∀ u ∈ [x], u.oneCell' = true := fun u hu => by rw [List.mem_singleton] at hu; rw [hu]; exact h1
  have fin : ∀ B' v' w', w'.ownsRow B' e 1 v' (n + 1) (vs ++ [x]) → ∃ p' c', v' = .slice p' (n + 1) c' ∧ OwV e w' B' p' (n + 1) c' (vs ++ [x]) := by
    intro B' v' w' h
    exact OwV.of_owns h (by rw [List.length_append, ho.len]; rfl) (by omega)
  have new : ∀ v' w', w'.ownsRow w.heap.size e 1 v' (n + 1) (vs ++ [x]) → w.grownBy w' none → ∃ p' c', v' = .slice p' (n + 1) c' ∧ OwG e w' B p' (n + 1) c' (vs ++ [x]) ∧ (Grow w w' p c p' c' ∧ (c = 0 → w.grownBy w' none)) ∧ Kept e w w' := by
    intro v' w' h hg
    obtain ⟨p', c', rfl, h4⟩ := fin _ v' w' h
    refine ⟨p', c', rfl, h4.g.lowerB hB, ⟨Or.inr ⟨hg, fun a ha => ?_⟩, fun _ => hg⟩, kept_of hg (fun g hg => by cases hg)⟩
    subst ha
    exact (h.lt a.block rfl).1
  have hcap := ho.cap
  have hlen := ho.len
  rcases Nat.lt_or_ge c (n + 1) with hlt | hge
  · cases p with
    | none =>
      obtain rfl : c = 0 := ho.rd.nil rfl
      obtain rfl : n = 0 := by omega
      obtain rfl : vs = [] := List.length_eq_zero_iff.1 hlen
      obtain ⟨v', w', h1, h2, h3, _⟩ := run_append_own (P := P) w w.heap.size t ty e i z 1 by_ ht hi hz hsize hby hzs (by decide) _ 0 [] (World.ownsRow_nil _ _ _ _) ⟨b, o, none⟩ 1 d _ hl hn h1' h63 hb (Nat.le_refl _)
      obtain ⟨p', c', rfl, h4, h5⟩ := new v' w' h2 h3
      exact ⟨p', c', w', h1, h4, h5⟩
    | some pa =>
      have holds : ∀ j u, vs[j]? = some u → w.cell? (pa.add j) = some u := fun j u hj => by
        have hj' : j < vs.length := by
          rcases Nat.lt_or_ge j vs.length with h | h
          · exact h
          · rw [List.getElem?_eq_none h] at hj; cases hj
        obtain ⟨b2, o2, e2, hcl⟩ := ho.rd.cells (by omega)
        cases e2
        rw [Addr.add_lit, hcl j (by omega), List.getD_eq_getElem?_getD, hj]
        rfl
      obtain ⟨v', w', h1, h2, h3⟩ := run_append_arg_grows (P := P) w t ty e i z 1 by_ ht hi hz hsize hby hzs (by decide) pa n c vs (by rw [hlen, Nat.mul_one]) holds ⟨b, o, none⟩ 1 d _ hl hn hlt h63 hb
      obtain ⟨p', c', rfl, h4, h5⟩ := new v' w' h2 h3
      exact ⟨p', c', w', h1, h4, h5⟩
  · obtain ⟨b2, o2, cur, rfl, hB2, hA, hcs⟩ := ho.own (by omega)
    have hr := run_append_room_cells (P := P) w t ty e i ht hi b2 o2 n c ⟨b, o, none⟩ 1 d [x] (by rw [hsize]; rfl) hn h1' hge (fun j hj => by
      have hj0 : j = 0 := by have : [x].length = 1 := rfl; omega
      rw [hj0, hA.cell, hsize, Nat.mul_one, Nat.add_zero, Array.getElem?_eq_getElem (by omega)]
      rfl) (fun j _ => hA.free _)
    rw [hsize, Nat.mul_one] at hr
    have hw : w.setCells b2 (o2 + n) [x] = w.setCell ⟨b2, o2 + n, none⟩ x := rfl
    rw [hw] at hr
    have hA' : At e (w.setCell ⟨b2, o2 + n, none⟩ x) b2 (cur.setIfInBounds (o2 + n) x) := heap_setCell_same w b2 (o2 + n) cur e x hA
    have hE : Ex b2 w (w.setCell ⟨b2, o2 + n, none⟩ x) := (Ex.refl b2 w).setCell (o2 + n) x
    have hG : w.grownBy (w.setCell ⟨b2, o2 + n, none⟩ x) (some b2) := hE.grown
    refine ⟨_, _, _, hr, ⟨⟨by rw [List.length_append, hlen]; rfl, hge, (fun e => by cases e), fun _ => ⟨b2, o2, rfl, fun j hj => ?_⟩⟩, fun _ => ⟨b2, o2, _, rfl, hB2, hA', by rw [Array.size_setIfInBounds]; exact hcs⟩⟩, ⟨Or.inl ⟨rfl, rfl, hG⟩, fun e => absurd e (by omega)⟩, kept_of hG (fun k hk => by cases hk; exact ⟨cur, _, hA⟩)⟩
    rw [hA'.cell]
    by_cases hjn : j < n
    · rw [Array.getElem?_setIfInBounds_ne (by omega)]
      obtain ⟨b3, o3, e3, hcl⟩ := ho.rd.cells (by omega)
      cases e3
      have h2 := hcl j hjn
      rw [hA.cell] at h2
      rw [h2, List.getD_eq_getElem?_getD, List.getD_eq_getElem?_getD, List.getElem?_append_left (by omega)]
    · obtain rfl : j = n := by omega
      rw [Array.getElem?_setIfInBounds_self, if_pos (by omega), List.getD_eq_getElem?_getD, List.getElem?_append_right (by omega), hlen, Nat.sub_self]
      rfl

end

end Go.Proofs.Ytpjhadaiodnnaaa.M

namespace Go.Proofs.Ytpjhadaiodnnaaa.M
open Go.ChangeShapes Go.WideShapes Go.ChangeAt Go.RowKit
set_option linter.unusedSimpArgs false

/-- A tape: which file counts, how many records last, the reel. -/
structure TP where
  file : Nat
  kept : Nat
  r : PR

/-- No block of the disk, and marked so. -/
def Fre (own : Nat → Nat) (g : Nat) (k : Nat) : Prop := own k = farM ∧ k ≠ g

/-- A tape in block gt, over the disk in block g. -/
structure TB (w : World) (own : Nat → Nat) (g gt : Nat) (t : TP) (pb : Option Addr) (nb cb : Nat) (pr : Option Addr) (cr : Nat) (vs : List Value) : Prop where
  blk : At 74 w gt #[.pointer (some ⟨g, 0, none⟩), .int .i64 t.file, .int .i64 t.kept, .int .i64 t.r.gen, .slice pb nb cb, .slice pr t.r.recs.length cr]
  fg : Fre own g gt
  bas : Rd .u8 w pb nb cb t.r.base
  fb : ∀ x, pb = some x → 0 < nb → Fre own g x.block
  rcs : RdV w pr t.r.recs.length cr vs
  fv : ∀ x, pr = some x → 0 < t.r.recs.length → Fre own g x.block
  sls : Sls w vs t.r.recs
  fs : ∀ i q m d, i < vs.length → vs.getD i undef = .slice q m d → ∀ x, q = some x → 0 < m → Fre own g x.block
  nb : ∀ x, pb = some x → 0 < nb → x.block ≠ gt
  nv : ∀ x, pr = some x → 0 < t.r.recs.length → x.block ≠ gt
  ns : ∀ i q m d, i < vs.length → vs.getD i undef = .slice q m d → ∀ x, q = some x → 0 < m → x.block ≠ gt

theorem RdV.ch0 {S : Nat → Prop} {w w' : World} {p : Option Addr} {n c : Nat} {vs : List Value} (h : RdV w p n c vs) (hc : Ch S w w') (hs : ∀ a, p = some a → 0 < n → ¬ S a.block) : RdV w' p n c vs :=
  ⟨h.len, h.cap, h.nil, fun hn => by
    obtain ⟨b, o, e, hcl⟩ := h.cells hn
    refine ⟨b, o, e, fun i hi => ?_⟩
    have h1 := hcl i hi
    rw [hc.cell (p := ⟨b, o + i, none⟩) (World.block_lt_of_cell? _ _ h1) (show ¬ S b from hs _ e hn)]
    exact h1⟩

theorem Sls.ch0 {S : Nat → Prop} {w w' : World} {vs : List Value} {xss : List (List Int)} (h : Sls w vs xss) (hc : Ch S w w') (hs : ∀ i q m d, i < vs.length → vs.getD i undef = .slice q m d → ∀ x, q = some x → 0 < m → ¬ S x.block) : Sls w' vs xss :=
  ⟨h.1, fun i hi => by
    obtain ⟨q, m, d, e, hr⟩ := h.2 i hi
    exact ⟨q, m, d, e, hr.ch0 hc (hs i q m d hi e)⟩⟩

theorem Fre.not {own : Nat → Nat} {g k a i : Nat} (h : Fre own g k) (ha : a ≤ 100) (hi : i < 8) : ¬ (k = g ∨ own k = mark a i) := fun e => e.elim h.2 (fun e => far_mark ha hi (by rw [← e, h.1]))

theorem At.ch {t : TypeId} {S : Nat → Prop} {w w' : World} {g : Nat} {cs : Array Value} (h : At t w g cs) (hc : Ch S w w') (hs : ¬ S g) : At t w' g cs := (hc.block g h.lt hs).trans h

/-- A tape beside what its disk does. -/
theorem TB.ch {w w' : World} {own own2 : Nat → Nat} {a i g gt : Nat} {t : TP} {pb : Option Addr} {nb cb : Nat} {pr : Option Addr} {cr : Nat} {vs : List Value} (ha : a ≤ 100) (hi : i < 8) (h : TB w own g gt t pb nb cb pr cr vs) (hc : Ch (fun k => k = g ∨ own k = mark a i) w w') (ho : ∀ k, k < w.heap.size → own2 k = own k) : TB w' own2 g gt t pb nb cb pr cr vs := by
  have hlb : ∀ x, pb = some x → 0 < nb → x.block < w.heap.size := fun x e h0 => by
    obtain ⟨b, o, e2, hcl⟩ := h.bas.cells h0
    rw [e] at e2
    cases e2
    exact World.block_lt_of_cell? _ _ (hcl 0 h0)
  have hlv : ∀ x, pr = some x → 0 < t.r.recs.length → x.block < w.heap.size := fun x e h0 => by
    obtain ⟨b, o, e2, hcl⟩ := h.rcs.cells h0
    rw [e] at e2
    cases e2
    exact World.block_lt_of_cell? _ _ (hcl 0 h0)
  have hls : ∀ i q m d, i < vs.length → vs.getD i undef = .slice q m d → ∀ x, q = some x → 0 < m → x.block < w.heap.size := fun j q m d hj e x ex h0 => by
    obtain ⟨q', m', d', e', hr⟩ := h.sls.2 j hj
    rw [e] at e'
    cases e'
    obtain ⟨b, o, e2, hcl⟩ := hr.cells h0
    rw [ex] at e2
    cases e2
    exact World.block_lt_of_cell? _ _ (hcl 0 h0)
  exact ⟨h.blk.ch hc (h.fg.not ha hi), ⟨(ho gt h.blk.lt).trans h.fg.1, h.fg.2⟩, h.bas.ch0 hc (fun x e h0 => (h.fb x e h0).not ha hi), (fun x e h0 => ⟨(ho _ (hlb x e h0)).trans (h.fb x e h0).1, (h.fb x e h0).2⟩), h.rcs.ch0 hc (fun x e h0 => (h.fv x e h0).not ha hi), (fun x e h0 => ⟨(ho _ (hlv x e h0)).trans (h.fv x e h0).1, (h.fv x e h0).2⟩), h.sls.ch0 hc (fun j q m d hj e x ex h0 => (h.fs j q m d hj e x ex h0).not ha hi), fun j q m d hj e x ex h0 => ⟨(ho _ (hls j q m d hj e x ex h0)).trans (h.fs j q m d hj e x ex h0).1, (h.fs j q m d hj e x ex h0).2⟩, h.nb, h.nv, h.ns⟩

theorem TB.below {w w' : World} {own : Nat → Nat} {g gt : Nat} {t : TP} {pb : Option Addr} {nb cb : Nat} {pr : Option Addr} {cr : Nat} {vs : List Value} (h : TB w own g gt t pb nb cb pr cr vs) (hb : Below w.heap.size w w') : TB w' own g gt t pb nb cb pr cr vs :=
  ⟨h.blk.below hb, h.fg, h.bas.below hb, h.fb, h.rcs.below hb, h.fv, h.sls.below hb, h.fs, h.nb, h.nv, h.ns⟩

/-- A tape whose bytes and records are its own, from block Bv on. -/
structure TO (w : World) (own : Nat → Nat) (Bv g gt : Nat) (t : TP) (pb : Option Addr) (nb cb : Nat) (pr : Option Addr) (cr : Nat) (vs : List Value) : Prop where
  bas : Ow .u8 5 w Bv pb nb cb t.r.base
  fb : ∀ x, pb = some x → 0 < cb → Fre own g x.block ∧ x.block ≠ gt
  rcs : OwG 22 w Bv pr t.r.recs.length cr vs
  fv : ∀ x, pr = some x → 0 < cr → Fre own g x.block ∧ x.block ≠ gt
  sls : Slo 5 w Bv vs t.r.recs
  fs : ∀ i q m d, i < vs.length → vs.getD i undef = .slice q m d → ∀ x, q = some x → 0 < d → Fre own g x.block ∧ x.block ≠ gt

theorem TO.tb {w : World} {own : Nat → Nat} {Bv g gt : Nat} {t : TP} {pb : Option Addr} {nb cb : Nat} {pr : Option Addr} {cr : Nat} {vs : List Value} (h : TO w own Bv g gt t pb nb cb pr cr vs) (hb : At 74 w gt #[.pointer (some ⟨g, 0, none⟩), .int .i64 t.file, .int .i64 t.kept, .int .i64 t.r.gen, .slice pb nb cb, .slice pr t.r.recs.length cr]) (hg : Fre own g gt) : TB w own g gt t pb nb cb pr cr vs :=
  have hf : ∀ i q m d, i < vs.length → vs.getD i undef = .slice q m d → ∀ x, q = some x → 0 < m → Fre own g x.block ∧ x.block ≠ gt := fun i q m d hi e x ex h0 => by
    obtain ⟨q', m', d', e', hr⟩ := h.sls.2 i hi
    rw [e] at e'
    cases e'
    exact h.fs i q m d hi e x ex (Nat.lt_of_lt_of_le h0 hr.cap)
  ⟨hb, hg, h.bas.rd, fun x e h0 => (h.fb x e (Nat.lt_of_lt_of_le h0 h.bas.cap)).1, h.rcs.rd, fun x e h0 => (h.fv x e (Nat.lt_of_lt_of_le h0 h.rcs.cap)).1, h.sls.sls, fun i q m d hi e x ex h0 => (hf i q m d hi e x ex h0).1, fun x e h0 => (h.fb x e (Nat.lt_of_lt_of_le h0 h.bas.cap)).2, fun x e h0 => (h.fv x e (Nat.lt_of_lt_of_le h0 h.rcs.cap)).2, fun i q m d hi e x ex h0 => (hf i q m d hi e x ex h0).2⟩

/-- A tape whose own words are changed. -/
theorem TB.put {w w' : World} {own : Nat → Nat} {g gt : Nat} {t : TP} {pb : Option Addr} {nb cb : Nat} {pr : Option Addr} {cr : Nat} {vs : List Value} (h : TB w own g gt t pb nb cb pr cr vs) (he : Ex gt w w') (file kept : Nat) (ha : At 74 w' gt #[.pointer (some ⟨g, 0, none⟩), .int .i64 file, .int .i64 kept, .int .i64 t.r.gen, .slice pb nb cb, .slice pr t.r.recs.length cr]) : TB w' own g gt ⟨file, kept, t.r⟩ pb nb cb pr cr vs :=
  have hc : Ch (fun k => k = gt) w w' := ⟨he.os, he.tape, he.output, he.size, fun k hk hn => he.block k hk hn⟩
  ⟨ha, h.fg, h.bas.ch0 hc h.nb, h.fb, h.rcs.ch0 hc h.nv, h.fv, h.sls.ch0 hc h.ns, h.fs, h.nb, h.nv, h.ns⟩

set_option maxRecDepth 20000 in
theorem tmade_yes (w : World) (gt g : Nat) (h0 : w.cell? ⟨gt, 0, none⟩ = some (.pointer (some ⟨g, 0, none⟩))) : Calls Try.prog 53 #[.pointer (some ⟨gt, 0, none⟩)] w fun e w' => e = .returned (.bool true) ∧ w' = w := by
  go_enter Try.func53, Try.ntmps53
  go_wp2_with fail
  go_ret
  exact ⟨rfl, rfl⟩

set_option maxRecDepth 20000 in
theorem other_any (w : World) (gt file : Nat) (hf : file ≤ 1) (h1 : w.cell? ⟨gt, 1, none⟩ = some (.int .i64 file)) : Calls Try.prog 58 #[.pointer (some ⟨gt, 0, none⟩)] w fun e w' => e = .returned (.int .i64 ((1 - file : Nat) : Int)) ∧ w' = w := by
  have hw : IntKind.i64.wrap (1 - (file : Int)) = ((1 - file : Nat) : Int) := by rw [IntKind.wrap_i64]; omega
  go_enter Try.func58, Try.ntmps58
  go_wp2_with fail
  go_ret
  exact ⟨by simp [hw], rfl⟩

theorem wp_store_one {P : Program} {op : Oper} {a : Act} {w : World} {K : Act → World → Prop} {Q : Exit → Act → World → Prop} (ty : TypeId) (x y : Operand) (ho : op.op = .store ty x y) (b o : Nat) (v : Value) (hv : v.cells = #[v]) (hv1 : v.oneCell' = true) (u : Value)
    (hx : a.eval x = .pointer (some ⟨b, o, none⟩)) (hy : a.eval y = v) (hsz : (P.info? ty).map (·.size) = some 1) (hc : w.cell? ⟨b, o, none⟩ = some u) (hf : w.frozen? ⟨b, o, none⟩ = false)
    (h : K (a.put op.dst undef) (w.setCell ⟨b, o, none⟩ v)) : op.wp P a w K Q := by
  have hrun : (storeVar ty ⟨b, o, none⟩ v).run P w = .ok () (w.setCell ⟨b, o, none⟩ v) := by
    have := run_storeCells_cells (P := P) b o [v] 0 w (fun j hj => by
        match j, hj with
        | 0, _ => rw [Nat.add_zero, hc]; rfl) (fun j hj => by
        match j, hj with
        | 0, _ => exact hf) (fun u hu => by rw [List.mem_singleton.1 hu]; exact hv1)
    cases hq : P.info? ty with
    | none => simp [hq] at hsz
    | some i =>
      have hs : i.size = 1 := by simpa [hq] using hsz
      simp only [Nat.add_zero] at this
      simp [storeVar, sizeOf, typeInfo, hq, hv, hs, this, World.setCells]
  unfold Oper.wp execOp
  simp only [ho, hx, hy, Instr.storeAt, Instr.sureAddr, Sem.run_bind, Sem.run_pure, Result.andThen_ok, hrun]
  exact h

theorem sizeI : (Try.prog.info? 3).map (·.size) = some 1 := by kernel_rfl

theorem At.put345 {t : TypeId} {w : World} {g : Nat} {a b c x y z : Value} (h : At t w g #[a, b, c, x, y, z]) (x' y' z' : Value) : At t (((w.setCell ⟨g, 3, none⟩ x').setCell ⟨g, 4, none⟩ y').setCell ⟨g, 5, none⟩ z') g #[a, b, c, x', y', z'] := by
  have h1 := heap_setCell_same w g 3 _ _ x' h
  have h2 := heap_setCell_same _ g 4 _ _ y' h1
  exact heap_setCell_same _ g 5 _ _ z' h2

/-- While a tape is given its next reel. -/
structure Sv (w6 : World) (gt gb : Nat) (cs : Array Value) (gen : Int) (qb : Option Addr) (mb db : Nat) (qr : Option Addr) (nr dr : Nat) (W : World) : Prop where
  at0 : At 74 W gt cs
  bx : At 72 W gb #[.int .i64 gen, .slice qb mb db, .slice qr nr dr]
  ex : Ex gt w6 W

theorem Sv.stays (w6 : World) (gt gb : Nat) (cs : Array Value) (gen : Int) (qb : Option Addr) (mb db : Nat) (qr : Option Addr) (nr dr : Nat) : Stays (Sv w6 gt gb cs gen qb mb db qr nr dr) := fun _ _ h hb => ⟨h.at0.below hb, h.bx.below hb, h.ex.trans (Ex.of_below hb)⟩

theorem Sv.rg {w6 : World} {gt gb : Nat} {cs : Array Value} {gen : Int} {qb : Option Addr} {mb db : Nat} {qr : Option Addr} {nr dr : Nat} {W : World} (h : Sv w6 gt gb cs gen qb mb db qr nr dr W) : W.rangeAt gb 0 [.int .i64 gen, .slice qb mb db, .slice qr nr dr] := fun j u hu => by
  rw [Nat.zero_add]
  match j, hu with
  | 0, hu => cases hu; exact h.bx.cell 0
  | 1, hu => cases hu; exact h.bx.cell 1
  | 2, hu => cases hu; exact h.bx.cell 2

theorem Sv.put {w6 : World} {gt gb : Nat} {cs cs' : Array Value} {gen : Int} {qb : Option Addr} {mb db : Nat} {qr : Option Addr} {nr dr : Nat} {V V' : World} (h : Sv w6 gt gb cs gen qb mb db qr nr dr V) (hE : Ex gt V V') (ha : At 74 V' gt cs') (hne : gb ≠ gt) : Sv w6 gt gb cs' gen qb mb db qr nr dr V' :=
  ⟨ha, h.bx.ex hE hne, h.ex.trans hE⟩

end Go.Proofs.Ytpjhadaiodnnaaa.M
