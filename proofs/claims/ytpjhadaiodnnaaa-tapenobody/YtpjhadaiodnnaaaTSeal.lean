/-
  Own text: the bytes of a reel, in plain words, and the contract of sealed.
-/
import Derived.Test.YtpjhadaiodnnaaaTLoad2
import Derived.Test.YtpjhadaiodnnaaaDet2
import Derived.Test.YtpjhadaiodnnaaaEArm
namespace Go.Proofs.Ytpjhadaiodnnaaa.M
open Go.ChangeShapes Go.WideShapes Go.ChangeAt Go.RowKit
set_option linter.unusedSimpArgs false

theorem wp_value {P : Program} {op : Oper} {a : Act} {w : World} {K : Act → World → Prop} {Q : Exit → Act → World → Prop} (v : Value) (w' : World) (he : (execOp a.eval op).run P w = .ok (.value v) w') (h : K (a.put op.dst v) w') : op.wp P a w K Q := by
  unfold Oper.wp
  rw [he]
  exact h

def Bl (w W : World) : Prop := Below w.heap.size w W

theorem Bl.stays (w : World) : Stays (Bl w) := fun _ _ h hb => h.trans (hb.mono h.size)

theorem Bl.out' {w W : World} (h : Bl w W) : Below w.heap.size w W := h

/-- A reel's first record, ahead of its seal. -/
def headR (r : PR) : List Int := putAll [r.gen, (r.recs.length : Int)] ++ (putL r.base.length ++ r.base)

/-- A reel's bytes. -/
def sealR (r : PR) : List Int := sealL (headR r) ++ (r.recs.map sealL).flatten

/-- May a reel be? -/
structure PR.ok (r : PR) : Prop where
  gen : 0 ≤ r.gen ∧ r.gen ≤ 1099511627776
  base : r.base.length ≤ 8176 ∧ By r.base
  few : r.recs.length ≤ 1000000
  recs : ∀ i, i < r.recs.length → By (r.recs.getD i []) ∧ (r.recs.getD i []).length ≤ 8192

theorem rd2 (V : World) (x y : Int) : Rd .u64 (V.alloc (.cells #[.int .u64 x, .int .u64 y] 133)) (some ⟨V.heap.size, 0, none⟩) 2 2 [x, y] := by
  refine ⟨rfl, Nat.le_refl _, (fun e => by cases e), fun _ => ⟨_, 0, rfl, fun i hi => ?_⟩⟩
  have hA := At.new 133 V #[.int .u64 x, .int .u64 y]
  match i, hi with
  | 0, _ => exact hA.cell 0
  | 1, _ => exact hA.cell 1

theorem sealL_len_le {ys : List Int} (h : ys.length ≤ 8192) : (sealL ys).length ≤ 8206 := by
  rw [length_sealL]
  have := putL_len (m := ys.length) (by omega)
  omega

theorem flat_take {l : List (List Int)} {k : Nat} (h : k < l.length) : ((l.take (k + 1)).map sealL).flatten = ((l.take k).map sealL).flatten ++ sealL (l.getD k []) := by
  rw [List.take_add_one, List.getElem?_eq_getElem h, List.map_append, List.flatten_append, List.getD_eq_getElem?_getD, List.getElem?_eq_getElem h]
  simp

theorem flat_len {l : List (List Int)} (h : ∀ i, i < l.length → (l.getD i []).length ≤ 8192) : ∀ k, k ≤ l.length → (((l.take k).map sealL).flatten).length ≤ k * 8206
  | 0, _ => by simp
  | k + 1, hk => by
    have ih := flat_len h k (by omega)
    rw [flat_take (by omega), List.length_append]
    have := sealL_len_le (h k (by omega))
    omega

theorem headR_ok {r : PR} (h : r.ok) : By (headR r) ∧ (headR r).length ≤ 8192 := by
  have h0 : (putAll [r.gen, (r.recs.length : Int)]) = putL r.gen.toNat ++ putL r.recs.length := by simp [putAll]
  have hg := h.gen
  have hf := h.few
  have hb := h.base
  unfold headR
  rw [h0]
  refine ⟨By.app (By.app (putL_by _) (putL_by _)) (By.app (putL_by _) hb.2), ?_⟩
  rw [List.length_append, List.length_append, List.length_append]
  have h1 := putL_len_le 5 r.gen.toNat (by have : r.gen.toNat ≤ 1099511627776 := by omega
                                           exact Nat.lt_of_le_of_lt this (by decide))
  have h2 := putL_len_le 2 r.recs.length (Nat.lt_of_le_of_lt hf (by decide))
  have h3 := putL_len_le 1 r.base.length (Nat.lt_of_le_of_lt hb.1 (by decide))
  omega

set_option maxRecDepth 20000 in
set_option maxHeartbeats 4000000 in
theorem sealed_any (w : World) (g : Nat) (r : PR) (hr : r.ok) (pb : Option Addr) (nb cb : Nat) (pr : Option Addr) (cr : Nat) (vs : List Value) (hG : At 72 w g #[.int .i64 r.gen, .slice pb nb cb, .slice pr r.recs.length cr]) (hb : Rd .u8 w pb nb cb r.base) (hv : RdV w pr r.recs.length cr vs) (hs : Sls w vs r.recs) :
    Calls Try.prog 59 #[.pointer (some ⟨g, 0, none⟩)] w fun e w' => (∃ p n c, e = .returned (.slice p n c) ∧ Ow .u8 5 w' w.heap.size p n c (sealR r)) ∧ Below w.heap.size w w' := by
  obtain ⟨gen, base, recs⟩ := r
  have hgen := hr.gen
  have hbas := hr.base
  have hfew := hr.few
  have hrec := hr.recs
  obtain ⟨hhby, hhl⟩ := headR_ok hr
  dsimp only at hG hb hv hs hgen hbas hfew hrec
  obtain ⟨nr, hnr⟩ : ∃ z, z = recs.length := ⟨_, rfl⟩
  have HN : Hid (nr = recs.length) := hnr
  rw [← hnr] at hG hv hfew
  have hwd : Wd [gen, (nr : Int)] := fun x hx => by
    simp only [List.mem_cons, List.not_mem_nil, or_false] at hx
    rcases hx with rfl | rfl <;> omega
  have hS0w : ∀ W, Bl w W → W.cell? ⟨g, 0, none⟩ = some (.int .i64 gen) ∧ W.cell? ⟨g, 2, none⟩ = some (.slice pr nr cr) := fun W h => ⟨(hG.below (Bl.out' h)).cell 0, (hG.below (Bl.out' h)).cell 2⟩
  have hcg : IntKind.u64.wrap gen = gen := by rw [show IntKind.u64.wrap gen = gen % 18446744073709551616 from rfl]; omega
  have hcn : IntKind.u64.wrap (nr : Int) = (nr : Int) := by rw [show IntKind.u64.wrap (nr : Int) = (nr : Int) % 18446744073709551616 from rfl]; omega
  have hS0 : Bl w w.drew := (Below.refl _ _).drew
  obtain ⟨i0, hi0, hz0, hz1, hz2⟩ := info_parts infoU8
  have HPL : Hid ((putAll [gen, (nr : Int)]).length ≤ 20) := by
    show _ ≤ 20
    have h0 : (putAll [gen, (nr : Int)]) = putL gen.toNat ++ putL nr := by simp [putAll]
    rw [h0, List.length_append]
    have h1 := putL_len (m := gen.toNat) (by omega)
    have h2 := putL_len (m := nr) (by omega)
    omega
  clear hnr
  go_enter Try.func59, Try.ntmps59
  go_wp2_with fail
  refine wp_region_det [0, 1, 2, 3, 4, 5, 6, 7, 8, 9, 10, 13] (fun W => W.cell? ⟨g, 0, none⟩ = some (.int .i64 gen) ∧ W.cell? ⟨g, 2, none⟩ = some (.slice pr nr cr)) (Bl w) (by kernel_rfl) hS0 ?_
  refine wpDet_take ?vA0 (Bl.stays w) hS0w (i := 0) rfl (by kernel_rfl) (by kernel_rfl) (by kernel_rfl) (by kernel_rfl) (fun _ _ _ h => h) (Gives.value (by rfl) ?yA0) ?rA0
  case yA0 => (intro w' hSw; (try dsimp only at hSw); go_simp; try with_reducible rfl)
  (try simp only [Act.put, List.getElem_toArray, List.getElem_cons_zero, List.getElem_cons_succ, List.setIfInBounds_toArray, List.set_cons_zero, List.set_cons_succ])
  refine wpDet_take ?vA1 (Bl.stays w) hS0w (i := 1) rfl (by kernel_rfl) (by kernel_rfl) (by kernel_rfl) (by kernel_rfl) (fun _ _ _ h => h) (Gives.value (by rfl) ?yA1) ?rA1
  case yA1 => (intro w' hSw; (try dsimp only at hSw); go_simp; try with_reducible rfl)
  (try simp only [Act.put, List.getElem_toArray, List.getElem_cons_zero, List.getElem_cons_succ, List.setIfInBounds_toArray, List.set_cons_zero, List.set_cons_succ])
  refine wpDet_take ?vA2 (Bl.stays w) hS0w (i := 2) rfl (by kernel_rfl) (by kernel_rfl) (by kernel_rfl) (by kernel_rfl) (fun _ _ _ h => h) (Gives.value (by rfl) ?yA2) ?rA2
  case yA2 => (intro w' hSw; (try dsimp only at hSw); go_simp; try with_reducible rfl)
  (try simp only [Act.put, List.getElem_toArray, List.getElem_cons_zero, List.getElem_cons_succ, List.setIfInBounds_toArray, List.set_cons_zero, List.set_cons_succ])
  refine wpDet_take ?vA3 (Bl.stays w) hS0w (i := 3) rfl (by kernel_rfl) (by kernel_rfl) (by kernel_rfl) (by kernel_rfl) (fun _ _ _ h => h) (Gives.value (by rfl) ?yA3) ?rA3
  case yA3 => (intro w' hSw; have hz0 := hSw.1; (try dsimp only at hSw); go_simp; try with_reducible rfl)
  (try simp only [Act.put, List.getElem_toArray, List.getElem_cons_zero, List.getElem_cons_succ, List.setIfInBounds_toArray, List.set_cons_zero, List.set_cons_succ])
  refine wpDet_take (.int .u64 gen) (Bl.stays w) hS0w (i := 4) rfl (by kernel_rfl) (by kernel_rfl) (by kernel_rfl) (by kernel_rfl) (fun _ _ _ h => h) (Gives.value (by rfl) ?yA4) ?rA4
  case yA4 => (intro w' hSw; (try dsimp only at hSw); go_simp; try with_reducible rfl)
  (try simp only [Act.put, List.getElem_toArray, List.getElem_cons_zero, List.getElem_cons_succ, List.setIfInBounds_toArray, List.set_cons_zero, List.set_cons_succ])
  refine wpDet_take ?vA5 (Bl.stays w) hS0w (i := 5) rfl (by kernel_rfl) (by kernel_rfl) (by kernel_rfl) (by kernel_rfl) (fun _ _ _ h => h) (Gives.value (by rfl) ?yA5) ?rA5
  case yA5 => (intro w' hSw; (try dsimp only at hSw); go_simp; try with_reducible rfl)
  (try simp only [Act.put, List.getElem_toArray, List.getElem_cons_zero, List.getElem_cons_succ, List.setIfInBounds_toArray, List.set_cons_zero, List.set_cons_succ])
  refine wpDet_take ?vA6 (Bl.stays w) hS0w (i := 6) rfl (by kernel_rfl) (by kernel_rfl) (by kernel_rfl) (by kernel_rfl) (fun _ _ _ h => h) (Gives.value (by rfl) ?yA6) ?rA6
  case yA6 => (intro w' hSw; (try dsimp only at hSw); go_simp; try with_reducible rfl)
  (try simp only [Act.put, List.getElem_toArray, List.getElem_cons_zero, List.getElem_cons_succ, List.setIfInBounds_toArray, List.set_cons_zero, List.set_cons_succ])
  refine wpDet_take ?vA7 (Bl.stays w) hS0w (i := 7) rfl (by kernel_rfl) (by kernel_rfl) (by kernel_rfl) (by kernel_rfl) (fun _ _ _ h => h) (Gives.value (by rfl) ?yA7) ?rA7
  case yA7 => (intro w' hSw; (try dsimp only at hSw); go_simp; try with_reducible rfl)
  (try simp only [Act.put, List.getElem_toArray, List.getElem_cons_zero, List.getElem_cons_succ, List.setIfInBounds_toArray, List.set_cons_zero, List.set_cons_succ])
  refine wpDet_take ?vA8 (Bl.stays w) hS0w (i := 8) rfl (by kernel_rfl) (by kernel_rfl) (by kernel_rfl) (by kernel_rfl) (fun _ _ _ h => h) (Gives.value (by rfl) ?yA8) ?rA8
  case yA8 => (intro w' hSw; have hz0 := hSw.2; (try dsimp only at hSw); go_simp; try with_reducible rfl)
  (try simp only [Act.put, List.getElem_toArray, List.getElem_cons_zero, List.getElem_cons_succ, List.setIfInBounds_toArray, List.set_cons_zero, List.set_cons_succ])
  refine wpDet_take ?vA9 (Bl.stays w) hS0w (i := 9) rfl (by kernel_rfl) (by kernel_rfl) (by kernel_rfl) (by kernel_rfl) (fun _ _ _ h => h) (Gives.value (by rfl) ?yA9) ?rA9
  case yA9 => (intro w' hSw; (try dsimp only at hSw); go_simp; try with_reducible rfl)
  (try simp only [Act.put, List.getElem_toArray, List.getElem_cons_zero, List.getElem_cons_succ, List.setIfInBounds_toArray, List.set_cons_zero, List.set_cons_succ])
  refine wpDet_take (.int .u64 nr) (Bl.stays w) hS0w (i := 10) rfl (by kernel_rfl) (by kernel_rfl) (by kernel_rfl) (by kernel_rfl) (fun _ _ _ h => h) (Gives.value (by rfl) ?yA10) ?rA10
  case yA10 => (intro w' hSw; (try dsimp only at hSw); go_simp; try with_reducible rfl)
  (try simp only [Act.put, List.getElem_toArray, List.getElem_cons_zero, List.getElem_cons_succ, List.setIfInBounds_toArray, List.set_cons_zero, List.set_cons_succ])
  refine wpDet_ready (rs := [11]) (by kernel_rfl) (by simp) (AllDet.cons rfl (fun V hV K hK => ?_) AllDet.nil)
  rw [if_pos (by rfl)]
  refine wp_value (.slice (some ⟨V.heap.size, 0, none⟩) 2 2) (V.alloc (.cells #[.int .u64 gen, .int .u64 nr] 133)) (by first | (go_simp; done) | (go_simp; rfl)) ?_
  have hba := below_alloc V (.cells #[.int .u64 gen, .int .u64 nr] 133)
  have hO := rd2 V gen nr
  have hb5 := Bl.stays w V _ hV hba
  obtain ⟨gs, hgs⟩ : ∃ z, z = V.heap.size := ⟨_, rfl⟩
  rw [← hgs] at hO ⊢
  refine hK.out (fun W => Bl w W ∧ Rd .u64 W (some ⟨gs, 0, none⟩) 2 2 [gen, nr]) _ _ (fun W W' h hb => ⟨Bl.stays w W W' h.1 hb, h.2.below hb⟩) (fun _ W h => hS0w W h.1) ⟨hb5, hO⟩ ?_
  clear hK K hV hba hO hb5 hgs
  (try simp only [Act.put, List.getElem_toArray, List.getElem_cons_zero, List.getElem_cons_succ, List.setIfInBounds_toArray, List.set_cons_zero, List.set_cons_succ])
  refine wpDet_ready (rs := [12]) (by kernel_rfl) (by simp) (AllDet.cons rfl (fun V hV K hK => ?_) AllDet.nil)
  rw [if_pos (by rfl)]
  have hC := put_any none 0 0 [] (some ⟨gs, 0, none⟩) 2 2 [gen, nr] V (Rd.empty _ _ _ _ (fun _ => rfl)) hV.2 hwd (by omega) (by omega)
  refine wp_enterX 85 #[.slice none 0 0, .slice (some ⟨gs, 0, none⟩) 2 2] (by first | (go_simp; done) | (go_simp; rfl)) (fun v V' => ∃ p' c', v = .slice p' (putAll [gen, nr]).length c' ∧ Rd .u8 V' p' (putAll [gen, nr]).length c' (putAll [gen, nr]) ∧ Below V.heap.size V V') (hC.mono fun e V' ⟨p', c', h1, h2, h3⟩ => ⟨_, h1, p', c', by rw [Nat.zero_add], by have := h2.rd; rw [Nat.zero_add, List.nil_append] at this; exact this, h3⟩) ?_
  rintro v V' ⟨p1, c1, rfl, hr1, hb1⟩
  refine hK.out (fun W => Bl w W ∧ Rd .u8 W p1 (putAll [gen, nr]).length c1 (putAll [gen, nr])) _ _ (fun W W' h hb => ⟨Bl.stays w W W' h.1 hb, h.2.below hb⟩) (fun _ W h => hS0w W h.1) ⟨Bl.stays w V V' hV.1 hb1, hr1⟩ ?_
  clear hK K hC hV hr1 hb1
  (try simp only [Act.put, List.getElem_toArray, List.getElem_cons_zero, List.getElem_cons_succ, List.setIfInBounds_toArray, List.set_cons_zero, List.set_cons_succ])
  refine wpDet_take ?vA13 (fun W W' h hb => ⟨Bl.stays w W W' h.1 hb, h.2.below hb⟩) (fun W h => hS0w W h.1) (i := 13) rfl (by kernel_rfl) (by kernel_rfl) (by kernel_rfl) (by kernel_rfl) (fun _ _ _ h => h) (Gives.value (by rfl) ?yA13) ?rA13
  case yA13 => (intro w' hSw; (try dsimp only at hSw); go_simp; try with_reducible rfl)
  (try simp only [Act.put, List.getElem_toArray, List.getElem_cons_zero, List.getElem_cons_succ, List.setIfInBounds_toArray, List.set_cons_zero, List.set_cons_succ])
  refine wpDet_done (by kernel_rfl) (fun W1 hW1 => ?_) _
  obtain ⟨hbW1', hr1⟩ := hW1
  have hbW1 := Bl.out' hbW1'
  have hG1 := hG.below hbW1
  have hb1 := hb.below hbW1
  obtain ⟨d0, d1, d2⟩ := hG1.three
  have gB := putBytes_any p1 _ c1 (putAll [gen, (nr : Int)]) pb nb cb base W1 hr1 hb1 (by have := HPL.out; omega) (by have := hb.len; omega)
  clear hbW1'
  go_wp2_with fail
  refine gB.mono ?_
  rintro e W2 ⟨p2, c2, rfl, hO2, hb2⟩
  have hlb := hb.len
  have hhead : Hid (headR ⟨gen, base, recs⟩ = putAll [gen, (nr : Int)] ++ (putL nb ++ base)) := by
    show _ = _
    unfold headR
    dsimp only
    rw [← HN.out, hlb]
  have hl2 := hO2.len
  rw [← hhead.out] at hO2 hl2
  have gS := seal_any p2 _ c2 (headR ⟨gen, base, recs⟩) W2 hO2.rd hhby (by rw [← hl2]; exact hhl)
  have hbW2 := hbW1.trans (hb2.mono hbW1.size)
  clear gB hb2 hG1 hb1 d0 d1 d2
  go_wp2_with fail
  refine gS.mono ?_
  rintro e W3 ⟨p3, n3, c3, rfl, hO3, hb3⟩
  have hbW3 := hbW2.trans (hb3.mono hbW2.size)
  have hO3' := hO3.lower hbW2.size
  have hG3 := hG.below hbW3
  obtain ⟨d0, d1, d2⟩ := hG3.three
  clear gS hb3 hO2 hO3 hr1
  obtain ⟨hd, Hhd⟩ : ∃ z, Hid (headR ⟨gen, base, recs⟩ = z) := ⟨_, rfl⟩
  rw [Hhd.out] at hO3' hhby hhl
  go_wp2_with fail
  go_loopw [4, 38] (fun v ix wr => ∃ (k : Nat) (pq : Option Addr) (nq cq : Nat), k ≤ nr ∧ ix = .int .i64 k ∧ v = .slice pq nq cq ∧ Ow .u8 5 wr w.heap.size pq nq cq (sealL hd ++ ((recs.take k).map sealL).flatten) ∧ Below w.heap.size w wr) (fun _ ix _ => nr - (intOf ix).toNat)
  case atStart => exact ⟨0, p3, n3, c3, Nat.zero_le _, rfl, rfl, by rw [List.take_zero, List.map_nil, List.flatten_nil, List.append_nil]; exact hO3', hbW3⟩
  case round =>
    obtain ⟨k, pq, nq, cq, hk, rfl, rfl, hO, hbw⟩ := hrel
    have hwsz := hbw.size
    by_cases hkn : k < nr
    · have hki : (k : Int) < (nr : Int) := by omega
      have hvw := hv.below hbw
      obtain ⟨bv, ov, hpe, hcv⟩ := hvw.cells (by omega)
      subst hpe
      have hck := hcv k hkn
      obtain ⟨q0, m0, e0, hq0, hr0⟩ := (hs.below hbw).2 k (by rw [hv.len]; exact hkn)
      rw [hq0] at hck
      obtain ⟨hby0, hl0⟩ := hrec k (by rw [← HN.out]; exact hkn)
      have hfl := flat_take (l := recs) (k := k) (by rw [← HN.out]; exact hkn)
      have hfn := flat_len (l := recs) (fun i hi => (hrec i hi).2) k (by rw [← HN.out]; exact hk)
      have hhl2 := sealL_len_le hhl
      have hln := hO.len
      rw [List.length_append] at hln
      have hm0 : m0 ≤ 8192 := by rw [← hr0.len]; exact hl0
      have hsl := sealL_len_le hl0
      generalize recs.getD k [] = y at *
      have gS := seal_any q0 m0 e0 y wr hr0 hby0 hm0
      clear hcv
      go_wp2_with fail
      refine gS.mono ?_
      rintro e W4 ⟨p4, n4, c4, rfl, hO4, hb4⟩
      have hOb := hO.below hb4
      have hn4 := hO4.len
      have hbw4 := hbw.trans (hb4.mono hwsz)
      have hB4 := hbw4.size
      have HFL : Hid (((recs.take (k + 1)).map sealL).flatten = ((recs.take k).map sealL).flatten ++ sealL y) := hfl
      clear gS hfl hO hb4 hck hvw
      go_wp2_with (at_builtin; refine wpList_app _ rfl (.tmp 47) (.tmp 48) 22 rfl .u8 5 i0 (.int .u8 0) 1 Try.underlying22 hi0 hz0 hz1 hz2 rfl w.heap.size pq nq cq _ rfl hOb p4 n4 c4 (sealL y) rfl hO4.rd ?d1 ?d2 hB4 ?_; rotate_left 2; intro p5 c5 W5 hO5 hb5)
      case d1 => omega
      case d2 => unfold maxLen; omega
      go_roundw
      case rel => exact ⟨k + 1, p5, nq + n4, c5, by omega, by go_num, rfl, by rw [HFL.out, ← List.append_assoc]; exact hO5, hbw4.trans hb5⟩
      case measure => simp [intOf]; omega
    · have hki : ¬ (k : Int) < (nr : Int) := by omega
      have et : recs.take k = recs := List.take_of_length_le (by rw [← HN.out]; omega)
      rw [et] at hO
      go_wp2_with fail
      go_ret
      refine ⟨⟨pq, nq, cq, rfl, ?_⟩, hbw⟩
      unfold sealR
      rw [Hhd.out]
      exact hO

end Go.Proofs.Ytpjhadaiodnnaaa.M
