/-
  Own text: layout's Follows says yes where it ought to.
-/
import Derived.Test.YtnhdfojbffaifaaYRowI
import Derived.Test.YtnhdfojbffaifaaDet2
namespace Go.Proofs.Ytnhdfojbffaifaa.M
open Go.ChangeShapes Go.WideShapes Go.ChangeAt Go.RowKit

set_option maxRecDepth 20000 in
theorem and_any (x y : Nat) (w : World) (hx : x < 18446744073709551616) (hy : y < 18446744073709551616) : Calls Try.prog 57 #[.int .u64 x, .int .u64 y] w fun e w' => e = .returned (.int .u64 ((x &&& y : Nat) : Int)) ∧ w' = w := by
  have hb := u64_and_nat x y hx hy
  go_enter Try.func57, Try.ntmps57
  go_wp2
  go_ret
  exact ⟨rfl, rfl⟩

theorem cell_bel {W W' : World} {p : Addr} {v : Value} (hb : Below W.heap.size W W') (h : W.cell? p = some v) : W'.cell? p = some v := (hb.cell (World.block_lt_of_cell? _ _ h)).trans h

/-- All that lay in w lies xa it did, and a row of numbers can be read. -/
def Bi (w : World) (q : Option Addr) (n d : Nat) (xs : List Int) (W : World) : Prop := Bl w W ∧ Rd .i64 W q n d xs

theorem Bi.stays (w : World) (q : Option Addr) (n d : Nat) (xs : List Int) : Stays (Bi w q n d xs) := fun W W' h hb => ⟨Bl.stays w W W' h.1 hb, h.2.below hb⟩

set_option linter.unusedSimpArgs false in
set_option maxRecDepth 20000 in
set_option maxHeartbeats 4000000 in
theorem Follows_yes (ea eb : Int) (p q : Option Addr) (n m c d : Nat) (xa xb : List Mb) (w : World) (ha : RdM w p n c xa) (hb : RdM w q m d xb) (ka : chk ea xa = true) (kb : chk eb xb = true) (hlt : ea < eb)
    (HB : Hid (thN (fun m => !m.f) 0 xb &&& (18446744073709551615 - thN (fun _ => true) 0 xa) = 0)) (HRow : Hid (rowL (thN (fun _ => true) 0 xa &&& thN (fun _ => true) 0 xb) xa = rowL (thN (fun _ => true) 0 xa &&& thN (fun _ => true) 0 xb) xb)) :
    Calls Try.prog 31 #[.agg #[.int .i64 ea, .slice p n c], .agg #[.int .i64 eb, .slice q m d]] w fun r w' => r = .returned (.bool true) ∧ Below w.heap.size w w' := by
  have hb0 : Below w.heap.size w ((w.alloc (.cells #[.int .i64 ea, .slice p n c] 24)).alloc (.cells #[.int .i64 eb, .slice q m d] 24)) := ((Below.refl _ _).alloc (Nat.le_refl _) _).alloc (by simp) _
  have a0 : ((w.alloc (.cells #[.int .i64 ea, .slice p n c] 24)).alloc (.cells #[.int .i64 eb, .slice q m d] 24)).cell? ⟨w.heap.size, 0, none⟩ = some (.int .i64 ea) := by simp
  have a1 : ((w.alloc (.cells #[.int .i64 ea, .slice p n c] 24)).alloc (.cells #[.int .i64 eb, .slice q m d] 24)).cell? ⟨w.heap.size, 1, none⟩ = some (.slice p n c) := by simp
  have b0 : ((w.alloc (.cells #[.int .i64 ea, .slice p n c] 24)).alloc (.cells #[.int .i64 eb, .slice q m d] 24)).cell? ⟨w.heap.size + 1, 0, none⟩ = some (.int .i64 eb) := by simp
  have b1 : ((w.alloc (.cells #[.int .i64 ea, .slice p n c] 24)).alloc (.cells #[.int .i64 eb, .slice q m d] 24)).cell? ⟨w.heap.size + 1, 1, none⟩ = some (.slice q m d) := by simp
  have hla := ha.len
  have hlb := hb.len
  have pa := chk_parts ka
  have pb := chk_parts kb
  have ha0 := ha.below hb0
  have hbb0 := hb.below hb0
  have hCa := Check_any ea p n c xa _ ha0 (by omega)
  rw [ka] at hCa
  unfold chkV at hCa
  have hX : thN (fun _ => true) 0 xa &&& thN (fun _ => true) 0 xb < 18446744073709551616 := and_lt64 (thN_lt _ _ _ (by decide))
  simp only [if_true] at hCa
  clear ha hb
  generalize hw : w.heap.size = b at *
  have hle : ¬ eb ≤ ea := by omega
  go_enter Try.func31, Try.ntmps31
  go_wp2_with fail
  generalize ((w.alloc (.cells #[.int .i64 ea, .slice p n c] 24)).alloc (.cells #[.int .i64 eb, .slice q m d] 24)) = w0 at *
  refine hCa.mono ?_
  rintro r w1 ⟨rfl, h1⟩
  have hB1 := hb0.trans (h1.mono (hw ▸ hb0.size))
  have ha1 := ha0.below h1
  have hbb1 := hbb0.below h1
  replace a0 := cell_bel h1 a0
  replace a1 := cell_bel h1 a1
  replace b0 := cell_bel h1 b0
  replace b1 := cell_bel h1 b1
  have hCb := Check_any eb q m d xb _ hbb1 (by omega)
  rw [kb] at hCb
  unfold chkV at hCb
  simp only [if_true] at hCb
  clear hCa h1 ha0 hbb0 hb0
  go_wp2_with fail
  refine hCb.mono ?_
  rintro r w2 ⟨rfl, h2⟩
  have hB2 := hB1.trans (h2.mono (hw ▸ hB1.size))
  have ha2 := ha1.below h2
  have hbb2 := hbb1.below h2
  replace a0 := cell_bel h2 a0
  replace a1 := cell_bel h2 a1
  replace b0 := cell_bel h2 b0
  replace b1 := cell_bel h2 b1
  clear hCb h2 ha1 hbb1 hB1
  go_wp2_with fail
  have k0 := cell_regrown a0
  have k1 := cell_regrown a1
  have l0 := cell_regrown b0
  have l1 := cell_regrown b1
  have cNa : ∀ dd os, Calls Try.prog 22 #[.agg #[.int .i64 ea, .slice p n c]] (Sort.grow (redrawn w2 dd) os) fun e w'' => e = .returned (.int .u64 ((thN (fun _ => true) 0 xa : Nat) : Int)) ∧ ∃ p : Regrown, w'' = Sort.grow (redrawn w2 p.d) p.os := fun dd os => Calls.regrown_of (Nodes_any ea p n c xa _ (ha2.below (below_regrown _ _ _)) (by omega))
  have cNb : ∀ dd os, Calls Try.prog 22 #[.agg #[.int .i64 eb, .slice q m d]] (Sort.grow (redrawn w2 dd) os) fun e w'' => e = .returned (.int .u64 ((thN (fun _ => true) 0 xb : Nat) : Int)) ∧ ∃ p : Regrown, w'' = Sort.grow (redrawn w2 p.d) p.os := fun dd os => Calls.regrown_of (Nodes_any eb q m d xb _ (hbb2.below (below_regrown _ _ _)) (by omega))
  have cAn : ∀ dd os, Calls Try.prog 57 #[.int .u64 (thN (fun _ => true) 0 xa : Nat), .int .u64 (thN (fun _ => true) 0 xb : Nat)] (Sort.grow (redrawn w2 dd) os) fun e w'' => e = .returned (.int .u64 ((thN (fun _ => true) 0 xa &&& thN (fun _ => true) 0 xb : Nat) : Int)) ∧ ∃ p : Regrown, w'' = Sort.grow (redrawn w2 p.d) p.os := fun dd os => Calls.regrown_of ((and_any _ _ _ (thN_lt _ _ _ (by decide)) (thN_lt _ _ _ (by decide))).mono fun _ _ ⟨h1, h2⟩ => ⟨h1, by rw [h2]; exact Below.refl _ _⟩)
  generalize hXX : thN (fun _ => true) 0 xa &&& thN (fun _ => true) 0 xb = X at *
  clear hXX
  refine wp_region_quiet_below (by kernel_rfl) (by kernel_rfl) ?_
  repeat (quiet_step (first | (go_at_call 22; first | with_reducible exact cNa _ _ | with_reducible exact cNb _ _) | (go_at_call 57; exact cAn _ _)))
  refine wpQuiet_nil ?_
  intro _ hw'
  obtain ⟨⟨dq, osq⟩, hw''⟩ := hw'
  subst hw''
  have h3 := below_regrown w2 dq osq
  have hB3 := hB2.trans (h3.mono (hw ▸ hB2.size))
  have ha3 := ha2.below h3
  have hb3 := hbb2.below h3
  replace a0 := k0 dq osq
  replace a1 := k1 dq osq
  replace b0 := l0 dq osq
  replace b1 := l1 dq osq
  clear k0 k1 l0 l1 cNa cNb cAn h3 ha2 hbb2 hB2
  generalize Sort.grow (redrawn w2 dq) osq = w3 at *
  go_wp2_with fail
  have hS0 : Bl w3 w3.drew := (Below.refl _ _).drew
  refine wp_region_det [0, 1, 2, 3, 4, 5, 6, 7, 8, 10, 11, 14] (Bl w3) (Bl w3) (by kernel_rfl) hS0 ?_
  refine wpDet_take ?v0 (Bl.stays w3) (fun _ h => h) (i := 0) rfl (by kernel_rfl) (by kernel_rfl) (by kernel_rfl) (by kernel_rfl) (fun _ _ _ h => h) (Gives.value (by rfl) ?y0) ?r0
  case y0 => (intro w' hSw; have zb0 := cell_bel hSw b0; have zb1 := cell_bel hSw b1; go_simp; try with_reducible rfl)
  (try simp only [Act.put, List.getElem_toArray, List.getElem_cons_zero, List.getElem_cons_succ, List.setIfInBounds_toArray, List.set_cons_zero, List.set_cons_succ])
  refine wpDet_take ?v1 (Bl.stays w3) (fun _ h => h) (i := 1) rfl (by kernel_rfl) (by kernel_rfl) (by kernel_rfl) (by kernel_rfl) (fun _ _ _ h => h) (Gives.call 24 #[.agg #[.int .i64 eb, .slice q m d]] (by rfl) (by intro w'; first | (go_simp; done) | (go_simp; rfl)) ?y1) ?r1
  case y1 => (intro w' hSw; exact Whole_any eb q m d xb w' (hb3.below hSw) (by omega))
  (try simp only [Act.put, List.getElem_toArray, List.getElem_cons_zero, List.getElem_cons_succ, List.setIfInBounds_toArray, List.set_cons_zero, List.set_cons_succ])
  refine wpDet_take ?v2 (Bl.stays w3) (fun _ h => h) (i := 2) rfl (by kernel_rfl) (by kernel_rfl) (by kernel_rfl) (by kernel_rfl) (fun _ _ _ h => h) (Gives.value (by rfl) ?y2) ?r2
  case y2 => (intro w' hSw; have za0 := cell_bel hSw a0; have za1 := cell_bel hSw a1; go_simp; try with_reducible rfl)
  (try simp only [Act.put, List.getElem_toArray, List.getElem_cons_zero, List.getElem_cons_succ, List.setIfInBounds_toArray, List.set_cons_zero, List.set_cons_succ])
  refine wpDet_take ?v3 (Bl.stays w3) (fun _ h => h) (i := 3) rfl (by kernel_rfl) (by kernel_rfl) (by kernel_rfl) (by kernel_rfl) (fun _ _ _ h => h) (Gives.call 22 #[.agg #[.int .i64 ea, .slice p n c]] (by rfl) (by intro w'; first | (go_simp; done) | (go_simp; rfl)) ?y3) ?r3
  case y3 => (intro w' hSw; exact Nodes_any ea p n c xa w' (ha3.below hSw) (by omega))
  (try simp only [Act.put, List.getElem_toArray, List.getElem_cons_zero, List.getElem_cons_succ, List.setIfInBounds_toArray, List.set_cons_zero, List.set_cons_succ])
  refine wpDet_take ?v4 (Bl.stays w3) (fun _ h => h) (i := 4) rfl (by kernel_rfl) (by kernel_rfl) (by kernel_rfl) (by kernel_rfl) (fun _ _ _ h => h) (Gives.call 29 #[.int .u64 (thN (fun m => !m.f) 0 xb : Nat), .int .u64 (thN (fun _ => true) 0 xa : Nat)] (by rfl) (by intro w'; first | (go_simp; done) | (go_simp; rfl)) ?y4) ?r4
  case y4 => (intro w' hSw; exact ((but_any (thN (fun m => !m.f) 0 xb) (thN (fun _ => true) 0 xa) w' (thN_lt _ _ _ (by decide)) (thN_lt _ _ _ (by decide))).mono fun e w'' hh => ⟨by rw [hh.1, HB.out], by rw [hh.2]; exact Below.refl _ _⟩))
  (try simp only [Act.put, List.getElem_toArray, List.getElem_cons_zero, List.getElem_cons_succ, List.setIfInBounds_toArray, List.set_cons_zero, List.set_cons_succ])
  refine wpDet_take ?v5 (Bl.stays w3) (fun _ h => h) (i := 5) rfl (by kernel_rfl) (by kernel_rfl) (by kernel_rfl) (by kernel_rfl) (fun _ _ _ h => h) (Gives.value (by rfl) ?y5) ?r5
  case y5 => (intro w' hSw; go_simp; try with_reducible rfl)
  (try simp only [Act.put, List.getElem_toArray, List.getElem_cons_zero, List.getElem_cons_succ, List.setIfInBounds_toArray, List.set_cons_zero, List.set_cons_succ])
  refine wpDet_take ?v6 (Bl.stays w3) (fun _ h => h) (i := 6) rfl (by kernel_rfl) (by kernel_rfl) (by kernel_rfl) (by kernel_rfl) (fun _ _ _ h => h) (Gives.value (by rfl) ?y6) ?r6
  case y6 => (intro w' hSw; go_simp; try with_reducible rfl)
  (try simp only [Act.put, List.getElem_toArray, List.getElem_cons_zero, List.getElem_cons_succ, List.setIfInBounds_toArray, List.set_cons_zero, List.set_cons_succ])
  refine wpDet_take ?v7 (Bl.stays w3) (fun _ h => h) (i := 7) rfl (by kernel_rfl) (by kernel_rfl) (by kernel_rfl) (by kernel_rfl) (fun _ _ _ h => h) (Gives.value (by rfl) ?y7) ?r7
  case y7 => (intro w' hSw; have za0 := cell_bel hSw a0; have za1 := cell_bel hSw a1; go_simp; try with_reducible rfl)
  (try simp only [Act.put, List.getElem_toArray, List.getElem_cons_zero, List.getElem_cons_succ, List.setIfInBounds_toArray, List.set_cons_zero, List.set_cons_succ])
  refine wpDet_take ?v8 (Bl.stays w3) (fun _ h => h) (i := 8) rfl (by kernel_rfl) (by kernel_rfl) (by kernel_rfl) (by kernel_rfl) (fun _ _ _ h => h) (Gives.value (by rfl) ?y8) ?r8
  case y8 => (intro w' hSw; go_simp; try with_reducible rfl)
  (try simp only [Act.put, List.getElem_toArray, List.getElem_cons_zero, List.getElem_cons_succ, List.setIfInBounds_toArray, List.set_cons_zero, List.set_cons_succ])
  refine wpDet_take ?v10 (Bl.stays w3) (fun _ h => h) (i := 10) rfl (by kernel_rfl) (by kernel_rfl) (by kernel_rfl) (by kernel_rfl) (fun _ _ _ h => h) (Gives.value (by rfl) ?y10) ?r10
  case y10 => (intro w' hSw; have zb0 := cell_bel hSw b0; have zb1 := cell_bel hSw b1; go_simp; try with_reducible rfl)
  (try simp only [Act.put, List.getElem_toArray, List.getElem_cons_zero, List.getElem_cons_succ, List.setIfInBounds_toArray, List.set_cons_zero, List.set_cons_succ])
  refine wpDet_take ?v11 (Bl.stays w3) (fun _ h => h) (i := 11) rfl (by kernel_rfl) (by kernel_rfl) (by kernel_rfl) (by kernel_rfl) (fun _ _ _ h => h) (Gives.value (by rfl) ?y11) ?r11
  case y11 => (intro w' hSw; go_simp; try with_reducible rfl)
  (try simp only [Act.put, List.getElem_toArray, List.getElem_cons_zero, List.getElem_cons_succ, List.setIfInBounds_toArray, List.set_cons_zero, List.set_cons_succ])
  refine wpDet_ready (rs := [9]) (by kernel_rfl) (by simp) (AllDet.cons rfl (fun V hV K hK => ?_) AllDet.nil)
  rw [if_pos (by rfl)]
  have hCv := row_any ea p n c xa X V (ha3.below hV) (by omega) hX
  refine wp_enterE 59 #[.agg #[.int .i64 ea, .slice p n c], .int .u64 X] (by first | (go_simp; done) | (go_simp; rfl)) (fun v W => ∃ q1 d1, v = .slice q1 (rowL X xa).length d1 ∧ Rd .i64 W q1 (rowL X xa).length d1 (rowL X xa) ∧ Below V.heap.size V W) (hCv.mono fun e' w' hh => by obtain ⟨q1, d1, h1, h2, h3⟩ := hh; exact ⟨_, h1, q1, d1, rfl, h2, h3⟩) ?_
  rintro v7 V7 ⟨q1, d1, rfl, hr7, hb7⟩
  refine hK.out (Bi w3 q1 (rowL X xa).length d1 (rowL X xa)) _ _ (Bi.stays w3 _ _ _ _) (fun _ _ h => h.1) ⟨Bl.stays w3 V V7 hV hb7, hr7⟩ ?_
  clear hK K hCv hV hb7 hr7
  (try simp only [Act.put, List.getElem_toArray, List.getElem_cons_zero, List.getElem_cons_succ, List.setIfInBounds_toArray, List.set_cons_zero, List.set_cons_succ])
  refine wpDet_ready (rs := [12]) (by kernel_rfl) (by simp) (AllDet.cons rfl (fun V hV K hK => ?_) AllDet.nil)
  rw [if_pos (by rfl)]
  have hCv := row_any eb q m d xb X V (hb3.below hV.1) (by omega) hX
  rw [← HRow.out] at hCv
  refine wp_enterE 59 #[.agg #[.int .i64 eb, .slice q m d], .int .u64 X] (by first | (go_simp; done) | (go_simp; rfl)) (fun v W => ∃ q2 d2, v = .slice q2 (rowL X xa).length d2 ∧ Rd .i64 W q2 (rowL X xa).length d2 (rowL X xa) ∧ Below V.heap.size V W) (hCv.mono fun e' w' hh => by obtain ⟨q2, d2, h1, h2, h3⟩ := hh; exact ⟨_, h1, q2, d2, rfl, h2, h3⟩) ?_
  rintro v8 V8 ⟨q2, d2, rfl, hr8, hb8⟩
  refine hK.out (fun W => Bi w3 q1 (rowL X xa).length d1 (rowL X xa) W ∧ Bi w3 q2 (rowL X xa).length d2 (rowL X xa) W) _ _ ((Bi.stays w3 _ _ _ _).and (Bi.stays w3 _ _ _ _)) (fun _ _ h => h.1.1) ⟨Bi.stays w3 _ _ _ _ V V8 hV hb8, Bl.stays w3 V V8 hV.1 hb8, hr8⟩ ?_
  clear hK K hCv hV hb8 hr8
  (try simp only [Act.put, List.getElem_toArray, List.getElem_cons_zero, List.getElem_cons_succ, List.setIfInBounds_toArray, List.set_cons_zero, List.set_cons_succ])
  refine wpDet_ready (rs := [13]) (by kernel_rfl) (by simp) (AllDet.cons rfl (fun V hV K hK => ?_) AllDet.nil)
  rw [if_pos (by rfl)]
  have hCv := equalI_same q1 q2 (rowL X xa).length d1 d2 (rowL X xa) V hV.1.2 hV.2.2 (by have := rowL_len X xa; omega)
  refine wp_enterE 58 #[.slice q1 (rowL X xa).length d1, .slice q2 (rowL X xa).length d2] (by first | (go_simp; done) | (go_simp; rfl)) (fun v W => v = .bool true ∧ Below V.heap.size V W) (hCv.mono fun e' w' hh => ⟨_, hh.1, rfl, hh.2⟩) ?_
  rintro v9 V9 ⟨rfl, hb9⟩
  refine hK.out (Bl w3) _ _ (Bl.stays w3) (fun _ _ h => h) (Bl.stays w3 V V9 hV.1.1 hb9) ?_
  clear hK K hCv hV hb9
  (try simp only [Act.put, List.getElem_toArray, List.getElem_cons_zero, List.getElem_cons_succ, List.setIfInBounds_toArray, List.set_cons_zero, List.set_cons_succ])
  refine wpDet_take ?v14 (Bl.stays w3) (fun _ h => h) (i := 14) rfl (by kernel_rfl) (by kernel_rfl) (by kernel_rfl) (by kernel_rfl) (fun _ _ _ h => h) (Gives.value (by rfl) ?y14) ?r14
  case y14 => (intro w' hSw; go_simp; try with_reducible rfl)
  (try simp only [Act.put, List.getElem_toArray, List.getElem_cons_zero, List.getElem_cons_succ, List.setIfInBounds_toArray, List.set_cons_zero, List.set_cons_succ])
  refine wpDet_ready (rs := [15]) (by kernel_rfl) (by simp) (AllDet.cons rfl (fun V hV K hK => ?_) AllDet.nil)
  rw [if_pos (by rfl)]
  refine wp_value (.bool true) V (by first | (go_simp; done) | (go_simp; rfl)) ?_
  refine hK.out (Bl w3) _ _ (Bl.stays w3) (fun _ _ h => h) hV ?_
  clear hK K hV
  (try simp only [Act.put, List.getElem_toArray, List.getElem_cons_zero, List.getElem_cons_succ, List.setIfInBounds_toArray, List.set_cons_zero, List.set_cons_succ])
  refine wpDet_done (by kernel_rfl) (fun W9 hV => ?_) _
  go_wp2_with fail
  go_ret
  exact ⟨rfl, hB3.trans (Below.mono hV (hw ▸ hB3.size))⟩

end Go.Proofs.Ytnhdfojbffaifaa.M
