/-
  Own text: the document's Net: Send and Double, where they are done.
-/
import Derived.Test.YtmnipfdcbmamnaaXRef6
namespace Go.Proofs.Ytmnipfdcbmamnaa.M
open Go.ChangeShapes Go.WideShapes Go.ChangeAt Go.RowKit Go.ChangeMaps Go.MapKept Go.Maps
set_option linter.unusedSimpArgs false

theorem RdI.blt {w : World} {b o n c : Nat} {its : List It} (h : RdI w (some ⟨b, o, none⟩) n c its) (hn : 0 < n) : b < w.heap.size := by
  obtain ⟨b', o', e, hc⟩ := h.cells hn
  cases e
  exact World.block_lt_of_cell? _ _ (hc 0 hn).1

theorem RdI.blockEq {w w' : World} {b o n c : Nat} {its : List It} (h : RdI w (some ⟨b, o, none⟩) n c its) (hb : w'.heap[b]? = w.heap[b]?) : RdI w' (some ⟨b, o, none⟩) n c its :=
  ⟨h.len, h.cap, h.nil, fun hn => by
    obtain ⟨b', o', e, hc⟩ := h.cells hn
    cases e
    refine ⟨b, o, rfl, fun i hi => ?_⟩
    obtain ⟨k0, k1, k2⟩ := hc i hi
    have heq : ∀ j, w'.cell? ⟨b, j, none⟩ = w.cell? ⟨b, j, none⟩ := fun j => World.cell?_of_block hb
    exact ⟨(heq _).trans k0, (heq _).trans k1, (heq _).trans k2⟩, fun a e h0 => by
    cases e
    obtain ⟨cs, f, h1⟩ := h.row _ rfl h0
    exact ⟨cs, f, hb.trans h1⟩⟩

/-- append(s, l...) on a slice of the call's own. -/
theorem run_appI2 {w : World} {B : Nat} {v : Value} {A : List It} (ty : TypeId) (ho : OwI w B v A) {q : Option Addr} {m d : Nat} {L : List It} (hr : RdI w q m d L) (hA : A.length ≤ 1000000) (hm : m ≤ 1000000) (hB : B ≤ w.heap.size) :
    ∃ v' w', (Builtin.append_ #[28, 28] ty #[v, .slice q m d]).run Try.prog w = .ok v' w' ∧ OwI w' B v' (A ++ L) ∧ Below B w w' ∧ w.grownBy w' v.ownBlock := by
  obtain ⟨i, hi, hz, hsize, hby⟩ : ∃ i, Try.prog.info? 77 = some i ∧ i.zero = some (.agg #[.int .i64 0, .int .i64 0, .string { data := #[] }]) ∧ i.size = 3 ∧ i.bytes = 32 := by
    have := infoIt
    cases hq : Try.prog.info? 77 with
    | none => rw [hq] at this; cases this
    | some i =>
      rw [hq] at this
      simp only [Option.map_some, Option.some.injEq, Prod.mk.injEq] at this
      exact ⟨i, rfl, this.1, this.2.1, this.2.2⟩
  have hU : Try.prog.underlying 28 = some (.slice 77) := Try.underlying28
  cases q with
  | none =>
    have hd := hr.nil rfl
    have hm0 : m = 0 := by have := hr.cap; omega
    subst hd hm0
    have hL : L = [] := List.eq_nil_of_length_eq_zero hr.len
    subst hL
    refine ⟨v, w, run_append_owned_none w B 28 ty 77 i 3 hU hi v A.length (cellsI A) ho, ?_, Below.refl _ _, ⟨rfl, rfl, rfl, Nat.le_refl _, fun _ _ _ => rfl⟩⟩
    rw [List.append_nil]
    exact ho
  | some a =>
    have hnth : ∀ j u, (cellsI L)[j]? = some u → w.cell? (a.add j) = some u := by
      by_cases h0 : 0 < m
      · obtain ⟨b, o, e, _⟩ := hr.cells h0
        cases e
        exact hr.nth
      · intro j u hj
        have hL : L = [] := List.eq_nil_of_length_eq_zero (by rw [hr.len]; omega)
        subst hL
        cases hj
    obtain ⟨v', w', h1, h2, h3, _⟩ := run_append_own (P := Try.prog) (w := w) B 28 ty 77 i _ 3 32 hU hi hz hsize hby (by rfl) (by decide) v A.length (cellsI A) ho a m d (cellsI L) (by rw [cellsI_len, hr.len]) hnth itC_one (by unfold maxLen; omega) (by omega) hB
    refine ⟨v', w', h1, ?_, ?_, h3⟩
    · unfold OwI
      rw [cellsI_app, List.length_append, hr.len]
      exact h2
    · refine (Below.refl B w).grown h3 hB fun r hr => ?_
      rcases ho.2 with ⟨rfl, _⟩ | ⟨g', cap, cur, rfl, hg, _⟩
      · cases hr
      · cases hr; exact hg

theorem sizeIt : (Try.prog.info? 77).map (·.size) = some 3 := by kernel_rfl

theorem RdI.range {w : World} {b o n c k : Nat} {its : List It} (h : RdI w (some ⟨b, o, none⟩) n c its) (hk : k < n) {tt : It} (ht : tt = its.getD k (0, 0, ByteArray.empty)) : w.rangeAt b (o + k * 3) [.int .i64 tt.1, .int .i64 tt.2.1, .string tt.2.2] := by
  obtain ⟨b', o', e, hc⟩ := h.cells (by omega)
  cases e
  obtain ⟨k0, k1, k2⟩ := hc k hk
  rw [← ht] at k0 k1 k2
  intro j u hu
  match j, hu with
  | 0, hu => cases hu; exact k0
  | 1, hu => cases hu; exact k1
  | 2, hu => cases hu; exact k2

set_option maxRecDepth 20000 in
set_option maxHeartbeats 4000000 in
theorem rSend_ok {w : World} {gx : Nat} {p : Option Addr} {n c : Nat} {bs : List Bool} {lost : Int} {its : List It} (h : XB w gx p n c bs lost its) (hn : n ≤ 1000000) {x y : Int} (hl : isLk x y = true) (q : Option Addr) (m d : Nat) {xb : List Int} (hr : Rd .u8 w q m d xb) (hm : m ≤ 8192) (hf : (itN its x y).length < 8) :
    Calls Try.prog 36 #[.pointer (some ⟨gx, 0, none⟩), .agg #[.int .i64 x, .int .i64 y], .slice q m d] w fun o w' => o = .returned (.int .i64 0) ∧ (∃ q m d, XB w' gx q m d bs lost (its ++ [(x, y, strOfNums xb)])) ∧ Ex gx w w' := by
  obtain ⟨tt, htt⟩ : ∃ z : It, z = (x, y, strOfNums xb) := ⟨_, rfl⟩
  rw [← htt]
  have ht1 : Hid (x = tt.1) := by show _ = _; rw [htt]
  have ht2 : Hid (y = tt.2.1) := by show _ = _; rw [htt]
  have ht3 : Hid (strOfNums xb = tt.2.2) := by show _ = _; rw [htt]
  clear htt
  have hba := below_alloc w (.cells #[.int .i64 x, .int .i64 y] 33)
  have hA := At.new 33 w #[.int .i64 x, .int .i64 y]
  obtain ⟨a0, a1⟩ := hA.two
  have h1 := h.below hba
  have hp := rright_any (w.alloc (.cells #[.int .i64 x, .int .i64 y] 33)) x y
  rw [hl] at hp
  have hd : decide ((8192 : Int) < (m : Int)) = false := decide_eq_false (by omega)
  have hr1 := hr.below hba
  clear h
  go_enter Try.func36, Try.ntmps36
  go_wp2_with fail
  refine hp.mono ?_
  rintro o w1 ⟨rfl, hw⟩
  clear hp a0 a1
  have hb1 := hba.trans (hw.mono hba.size)
  have h2 := h1.below hw
  have hA1 := hA.below hw
  have hr2 := hr1.below hw
  obtain ⟨a0, a1⟩ := hA1.two
  have hL := rLen_any w1 gx p n c its h2.c0 h2.rd hn x y
  obtain ⟨K, HK⟩ : ∃ z, Hid ((itN its x y).length = z) := ⟨_, rfl⟩
  rw [HK.out] at hL hf
  have hg : decide ((8 : Int) ≤ (K : Int)) = false := decide_eq_false (by omega)
  clear hA hw hba h1 hr hr1
  go_wp2_with fail
  refine hL.mono ?_
  rintro o w2 ⟨rfl, hw2⟩
  clear hL a0 a1
  have hX2 := h2.below hw2
  have hA2 := hA1.below hw2
  have hr3 := hr2.below hw2
  have hb0 := hb1.trans (hw2.mono hb1.size)
  have hcap := hX2.rd.cap
  have hlen := hX2.rd.len
  clear h2 hw2 hA1 hr2 hb1 HK hf
  obtain ⟨gl, hgl⟩ : ∃ z, z = w.heap.size := ⟨_, rfl⟩
  rw [← hgl] at hA2 ⊢
  have hA3 : At 33 w2 gl #[.int .i64 tt.1, .int .i64 tt.2.1] := by rw [← ht1.out, ← ht2.out]; exact hA2
  have hS0w : ∀ W, Bl w2 W → XB W gx p n c bs lost its ∧ W.rangeAt gl 0 [.int .i64 tt.1, .int .i64 tt.2.1] ∧ (convert 34 9 (.slice q m d)).run Try.prog W = .ok (.string tt.2.2) W := fun W h => ⟨hX2.below h, hA3.rangeB h, by rw [← ht3.out]; exact (hr3.below h).str⟩
  clear hA2 hA3 hr3 ht1 ht2 ht3 hgl
  go_wp2_with fail
  have hS0 : Bl w2 w2.drew := (Below.refl _ _).drew
  refine wp_region_det [0, 2, 3, 4, 5, 7, 8, 9, 10] (fun W => XB W gx p n c bs lost its ∧ W.rangeAt gl 0 [.int .i64 tt.1, .int .i64 tt.2.1] ∧ (convert 34 9 (.slice q m d)).run Try.prog W = .ok (.string tt.2.2) W) (Bl w2) (by kernel_rfl) hS0 ?_
  refine wpDet_take ?vA0 (Bl.stays w2) hS0w (i := 0) rfl (by kernel_rfl) (by kernel_rfl) (by kernel_rfl) (by kernel_rfl) (fun _ _ _ h => h) (Gives.value (by rfl) ?yA0) ?rA0
  case yA0 => (intro w' hSw; go_simp; try with_reducible rfl)
  (try simp only [Act.put, List.getElem_toArray, List.getElem_cons_zero, List.getElem_cons_succ, List.setIfInBounds_toArray, List.set_cons_zero, List.set_cons_succ])
  refine wpDet_take ?vA2 (Bl.stays w2) hS0w (i := 2) rfl (by kernel_rfl) (by kernel_rfl) (by kernel_rfl) (by kernel_rfl) (fun _ _ _ h => h) (Gives.value (by rfl) ?yA2) ?rA2
  case yA2 => (intro w' hSw; go_simp; try with_reducible rfl)
  (try simp only [Act.put, List.getElem_toArray, List.getElem_cons_zero, List.getElem_cons_succ, List.setIfInBounds_toArray, List.set_cons_zero, List.set_cons_succ])
  refine wpDet_take ?vA3 (Bl.stays w2) hS0w (i := 3) rfl (by kernel_rfl) (by kernel_rfl) (by kernel_rfl) (by kernel_rfl) (fun _ _ _ h => h) (Gives.value (by rfl) ?yA3) ?rA3
  case yA3 => (intro w' hSw; go_simp; try with_reducible rfl)
  (try simp only [Act.put, List.getElem_toArray, List.getElem_cons_zero, List.getElem_cons_succ, List.setIfInBounds_toArray, List.set_cons_zero, List.set_cons_succ])
  refine wpDet_take ?vA4 (Bl.stays w2) hS0w (i := 4) rfl (by kernel_rfl) (by kernel_rfl) (by kernel_rfl) (by kernel_rfl) (fun _ _ _ h => h) (Gives.value (by rfl) ?yA4) ?rA4
  case yA4 => (intro w' hSw; go_simp; try with_reducible rfl)
  (try simp only [Act.put, List.getElem_toArray, List.getElem_cons_zero, List.getElem_cons_succ, List.setIfInBounds_toArray, List.set_cons_zero, List.set_cons_succ])
  refine wpDet_take ?vA5 (Bl.stays w2) hS0w (i := 5) rfl (by kernel_rfl) (by kernel_rfl) (by kernel_rfl) (by kernel_rfl) (fun _ _ _ h => h) (Gives.value (by rfl) ?yA5) ?rA5
  case yA5 => (intro w' hSw; have hz0 := hSw.1.c0; go_simp; try with_reducible rfl)
  (try simp only [Act.put, List.getElem_toArray, List.getElem_cons_zero, List.getElem_cons_succ, List.setIfInBounds_toArray, List.set_cons_zero, List.set_cons_succ])
  refine wpDet_take _ (Bl.stays w2) hS0w (i := 7) rfl (by kernel_rfl) (by kernel_rfl) (by kernel_rfl) (by kernel_rfl) (fun _ _ _ h => h) (Gives.of_yields (yieldsIf_load_mid (by rfl) _ _ rfl _ _ rfl _ _ (fun W h => h.2.1) Try.underlying33 rfl sizeLk)) ?_
  (try simp only [Act.put, List.getElem_toArray, List.getElem_cons_zero, List.getElem_cons_succ, List.setIfInBounds_toArray, List.set_cons_zero, List.set_cons_succ])
  refine wpDet_take ?vA8 (Bl.stays w2) hS0w (i := 8) rfl (by kernel_rfl) (by kernel_rfl) (by kernel_rfl) (by kernel_rfl) (fun _ _ _ h => h) (Gives.value (by rfl) ?yA8) ?rA8
  case yA8 => (intro w' hSw; go_simp; try with_reducible rfl)
  (try simp only [Act.put, List.getElem_toArray, List.getElem_cons_zero, List.getElem_cons_succ, List.setIfInBounds_toArray, List.set_cons_zero, List.set_cons_succ])
  refine wpDet_take ?vA9 (Bl.stays w2) hS0w (i := 9) rfl (by kernel_rfl) (by kernel_rfl) (by kernel_rfl) (by kernel_rfl) (fun _ _ _ h => h) (Gives.value (by rfl) ?yA9) ?rA9
  case yA9 => (intro w' hSw; have hz0 := hSw.2.2; go_simp; try with_reducible rfl)
  (try simp only [Act.put, List.getElem_toArray, List.getElem_cons_zero, List.getElem_cons_succ, List.setIfInBounds_toArray, List.set_cons_zero, List.set_cons_succ])
  refine wpDet_take ?vA10 (Bl.stays w2) hS0w (i := 10) rfl (by kernel_rfl) (by kernel_rfl) (by kernel_rfl) (by kernel_rfl) (fun _ _ _ h => h) (Gives.value (by rfl) ?yA10) ?rA10
  case yA10 => (intro w' hSw; go_simp; try with_reducible rfl)
  (try simp only [Act.put, List.getElem_toArray, List.getElem_cons_zero, List.getElem_cons_succ, List.setIfInBounds_toArray, List.set_cons_zero, List.set_cons_succ])
  refine wpDet_ready (rs := [1, 11]) (by kernel_rfl) (by simp) (AllDet.cons rfl (fun V hV K hK => ?_) (AllDet.cons rfl (fun V hV K hK => ?_) AllDet.nil))
  · rw [if_pos (by rfl)]
    refine wp_value (.slice (some ⟨V.heap.size, 0, none⟩) 0 0) (V.alloc (.cells #[] 77)) (by first | (go_simp; done) | (go_simp; rfl)) ?_
    have hba := below_alloc V (.cells #[] 77)
    have hO := OwI.empty V hV.size
    have hb5 := Bl.stays w2 V _ hV hba
    have hkb : True := trivial
    obtain ⟨ge, hge⟩ : ∃ z, z = V.heap.size := ⟨_, rfl⟩
    rw [← hge] at hO ⊢
    refine hK.out (fun W => Bl w2 W ∧ OwI W w2.heap.size (.slice (some ⟨ge, 0, none⟩) 0 0) [] ∧ True) _ _ (fun W W' h hb => ⟨Bl.stays w2 W W' h.1 hb, OwI.below h.2.1 hb, h.2.2⟩) (fun _ W h => hS0w W h.1) ⟨hb5, hO, hkb⟩ ?_
    clear hK K hV hba hO hb5 hkb hge
    (try simp only [Act.put, List.getElem_toArray, List.getElem_cons_zero, List.getElem_cons_succ, List.setIfInBounds_toArray, List.set_cons_zero, List.set_cons_succ])
    refine wpDet_ready (rs := [6, 11]) (by kernel_rfl) (by simp) (AllDet.cons rfl (fun V hV K hK => ?_) (AllDet.cons rfl (fun V hV K hK => ?_) AllDet.nil))
    · rw [if_pos (by rfl)]
      obtain ⟨v1, V1, hrun, hO1, hb1, hg1⟩ := run_appI2 28 hV.2.1 (hX2.below hV.1).rd (Nat.zero_le _) (by omega) hV.1.size
      refine wp_app _ _ 28 rfl (.slice (some ⟨ge, 0, none⟩) 0 0) (.slice p n c) rfl rfl v1 V1 hrun ?_
      have hb5 : Bl w2 V1 := Below.trans hV.1 hb1
      have hkb : True := trivial
      refine hK.out (fun W => Bl w2 W ∧ OwI W w2.heap.size v1 ([] ++ its) ∧ True) _ _ (fun W W' h hb => ⟨Bl.stays w2 W W' h.1 hb, OwI.below h.2.1 hb, h.2.2⟩) (fun _ W h => hS0w W h.1) ⟨hb5, hO1, hkb⟩ ?_
      clear hK K hV hrun hO1 hb1 hb5 hkb hg1
      (try simp only [Act.put, List.getElem_toArray, List.getElem_cons_zero, List.getElem_cons_succ, List.setIfInBounds_toArray, List.set_cons_zero, List.set_cons_succ])
      refine wpDet_ready (rs := [11]) (by kernel_rfl) (by simp) (AllDet.cons rfl (fun V hV K hK => ?_) AllDet.nil)
      rw [if_pos (by rfl)]
      refine wp_value (.slice (some ⟨V.heap.size, 0, none⟩) 1 1) (V.alloc (.cells #[.int .i64 tt.1, .int .i64 tt.2.1, .string tt.2.2] 77)) (by first | (go_simp; done) | (go_simp; rfl)) ?_
      have hba := below_alloc V (.cells #[.int .i64 tt.1, .int .i64 tt.2.1, .string tt.2.2] 77)
      have hO : RdI (V.alloc (.cells #[.int .i64 tt.1, .int .i64 tt.2.1, .string tt.2.2] 77)) (some ⟨V.heap.size, 0, none⟩) 1 1 [tt] := rdI_one V tt.1 tt.2.1 tt.2.2
      have hb5 := Bl.stays w2 V _ hV.1 hba
      have hka : OwI (V.alloc (.cells #[.int .i64 tt.1, .int .i64 tt.2.1, .string tt.2.2] 77)) w2.heap.size v1 ([] ++ its) := OwI.below hV.2.1 hba
      obtain ⟨gs, hgs⟩ : ∃ z, z = V.heap.size := ⟨_, rfl⟩
      rw [← hgs] at hO ⊢
      refine hK.out (fun W => Bl w2 W ∧ OwI W w2.heap.size v1 ([] ++ its) ∧ RdI W (some ⟨gs, 0, none⟩) 1 1 [tt]) _ _ (fun W W' h hb => ⟨Bl.stays w2 W W' h.1 hb, OwI.below h.2.1 hb, RdI.below h.2.2 hb⟩) (fun _ W h => hS0w W h.1) ⟨hb5, hka, hO⟩ ?_
      clear hK K hV hba hO hb5 hka hgs
      (try simp only [Act.put, List.getElem_toArray, List.getElem_cons_zero, List.getElem_cons_succ, List.setIfInBounds_toArray, List.set_cons_zero, List.set_cons_succ])
      refine wpDet_ready (rs := [12]) (by kernel_rfl) (by simp) (AllDet.cons rfl (fun V hV K hK => ?_) AllDet.nil)
      rw [if_pos (by rfl)]
      obtain ⟨v2, V2, hrun, hO2, hb2⟩ := run_appI 28 hV.2.1 hV.2.2 (by rw [List.nil_append]; omega) (by decide) hV.1.size
      refine wp_app _ _ 28 rfl v1 (.slice (some ⟨gs, 0, none⟩) 1 1) rfl rfl v2 V2 hrun ?_
      have hb5 : Bl w2 V2 := Below.trans hV.1 hb2
      refine hK.out (fun W => Bl w2 W ∧ OwI W w2.heap.size v2 ([] ++ its ++ [tt])) _ _ (OwI.stays w2 v2 _) (fun _ W h => hS0w W h.1) ⟨hb5, hO2⟩ ?_
      clear hK K hV hrun hO2 hb2 hb5
      (try simp only [Act.put, List.getElem_toArray, List.getElem_cons_zero, List.getElem_cons_succ, List.setIfInBounds_toArray, List.set_cons_zero, List.set_cons_succ])
      refine wpDet_ready (rs := [13]) (by kernel_rfl) (by simp) (AllDet.cons rfl (fun V hV K hK => ?_) AllDet.nil)
      rw [if_pos (by rfl)]
      refine wp_value (.pointer (some ⟨gx, 0, none⟩)) V (by first | (go_simp; done) | (go_simp; rfl)) ?_
      refine hK.out (fun W => Bl w2 W ∧ OwI W w2.heap.size v2 ([] ++ its ++ [tt])) _ _ (OwI.stays w2 v2 _) (fun _ W h => hS0w W h.1) hV ?_
      clear hK K hV
      (try simp only [Act.put, List.getElem_toArray, List.getElem_cons_zero, List.getElem_cons_succ, List.setIfInBounds_toArray, List.set_cons_zero, List.set_cons_succ])
      refine wpDet_ready (rs := [14]) (by kernel_rfl) (by simp) (AllDet.cons rfl (fun V hV K hK => ?_) AllDet.nil)
      rw [if_pos (by rfl)]
      refine wp_value (.pointer (some ⟨gx, 0, none⟩)) V (by first | (go_simp; done) | (go_simp; rfl)) ?_
      refine hK.out (fun W => Bl w2 W ∧ OwI W w2.heap.size v2 ([] ++ its ++ [tt])) _ _ (OwI.stays w2 v2 _) (fun _ W h => hS0w W h.1) hV ?_
      clear hK K hV
      (try simp only [Act.put, List.getElem_toArray, List.getElem_cons_zero, List.getElem_cons_succ, List.setIfInBounds_toArray, List.set_cons_zero, List.set_cons_succ])
      refine wpDet_ready (rs := [15]) (by kernel_rfl) (by simp) (AllDet.cons rfl (fun V hV K hK => ?_) AllDet.nil)
      rw [if_pos (by rfl)]
      obtain ⟨q3, d3, rfl, hq3, hr3⟩ := hV.2.rd
      have hXV := hX2.below hV.1
      refine wp_store_slice _ _ _ rfl gx 0 q3 _ d3 _ rfl rfl sizeSlI hXV.c0 (hXV.blk.free 0) ?_
      have hz := hXV.put hr3 (fun a e _ => by have := hq3 a e; have := hX2.blk.lt; omega)
      have hez : Ex gx w2 (V.setCell ⟨gx, 0, none⟩ (.slice q3 ([] ++ its ++ [tt]).length d3)) := (Ex.of_below hV.1).setCell 0 _
      refine hK.out (fun W => (∃ q m d, XB W gx q m d bs lost ([] ++ its ++ [tt])) ∧ Ex gx w2 W) _ _ (fun W W' h hb => ⟨by obtain ⟨q, m, d, hx⟩ := h.1; exact ⟨q, m, d, hx.below hb⟩, h.2.trans (Ex.of_below hb)⟩) (no_lean (by kernel_rfl)) ⟨⟨_, _, _, hz⟩, hez⟩ ?_
      clear hK K hV hXV hz hez hr3 hq3
      (try simp only [Act.put, List.getElem_toArray, List.getElem_cons_zero, List.getElem_cons_succ, List.setIfInBounds_toArray, List.set_cons_zero, List.set_cons_succ])
      refine wpDet_done (by kernel_rfl) (fun W6 hW6 => ?_) _
      obtain ⟨hz6, hez6⟩ := hW6
      clear hX2 hS0w
      go_wp2_with fail
      go_ret
      refine ⟨rfl, ?_, (Ex.of_below hb0).trans hez6⟩
      rw [List.nil_append] at hz6
      exact hz6
    · rw [if_pos (by rfl)]
      refine wp_value (.slice (some ⟨V.heap.size, 0, none⟩) 1 1) (V.alloc (.cells #[.int .i64 tt.1, .int .i64 tt.2.1, .string tt.2.2] 77)) (by first | (go_simp; done) | (go_simp; rfl)) ?_
      have hba := below_alloc V (.cells #[.int .i64 tt.1, .int .i64 tt.2.1, .string tt.2.2] 77)
      have hO : RdI (V.alloc (.cells #[.int .i64 tt.1, .int .i64 tt.2.1, .string tt.2.2] 77)) (some ⟨V.heap.size, 0, none⟩) 1 1 [tt] := rdI_one V tt.1 tt.2.1 tt.2.2
      have hb5 := Bl.stays w2 V _ hV.1 hba
      have hka : OwI (V.alloc (.cells #[.int .i64 tt.1, .int .i64 tt.2.1, .string tt.2.2] 77)) w2.heap.size (.slice (some ⟨ge, 0, none⟩) 0 0) [] := OwI.below hV.2.1 hba
      have hne : V.heap.size ≠ ge := by have := (World.ownsRow.lt hV.2.1 ge rfl).2; omega
      obtain ⟨gs, hgs⟩ : ∃ z, z = V.heap.size := ⟨_, rfl⟩
      rw [← hgs] at hO ⊢
      rw [← hgs] at hne
      refine hK.out (fun W => Bl w2 W ∧ OwI W w2.heap.size (.slice (some ⟨ge, 0, none⟩) 0 0) [] ∧ RdI W (some ⟨gs, 0, none⟩) 1 1 [tt]) _ _ (fun W W' h hb => ⟨Bl.stays w2 W W' h.1 hb, OwI.below h.2.1 hb, RdI.below h.2.2 hb⟩) (fun _ W h => hS0w W h.1) ⟨hb5, hka, hO⟩ ?_
      clear hK K hV hba hO hb5 hka hgs
      (try simp only [Act.put, List.getElem_toArray, List.getElem_cons_zero, List.getElem_cons_succ, List.setIfInBounds_toArray, List.set_cons_zero, List.set_cons_succ])
      refine wpDet_ready (rs := [6]) (by kernel_rfl) (by simp) (AllDet.cons rfl (fun V hV K hK => ?_) AllDet.nil)
      rw [if_pos (by rfl)]
      obtain ⟨v1, V1, hrun, hO1, hb1, hg1⟩ := run_appI2 28 hV.2.1 (hX2.below hV.1).rd (Nat.zero_le _) (by omega) hV.1.size
      refine wp_app _ _ 28 rfl (.slice (some ⟨ge, 0, none⟩) 0 0) (.slice p n c) rfl rfl v1 V1 hrun ?_
      have hb5 : Bl w2 V1 := Below.trans hV.1 hb1
      have hkb : RdI V1 (some ⟨gs, 0, none⟩) 1 1 [tt] := RdI.blockEq hV.2.2 (hg1.block gs (RdI.blt hV.2.2 (by decide)) (fun e => hne (Option.some.inj e)))
      refine hK.out (fun W => Bl w2 W ∧ OwI W w2.heap.size v1 ([] ++ its) ∧ RdI W (some ⟨gs, 0, none⟩) 1 1 [tt]) _ _ (fun W W' h hb => ⟨Bl.stays w2 W W' h.1 hb, OwI.below h.2.1 hb, RdI.below h.2.2 hb⟩) (fun _ W h => hS0w W h.1) ⟨hb5, hO1, hkb⟩ ?_
      clear hK K hV hrun hO1 hb1 hb5 hkb hg1
      (try simp only [Act.put, List.getElem_toArray, List.getElem_cons_zero, List.getElem_cons_succ, List.setIfInBounds_toArray, List.set_cons_zero, List.set_cons_succ])
      refine wpDet_ready (rs := [12]) (by kernel_rfl) (by simp) (AllDet.cons rfl (fun V hV K hK => ?_) AllDet.nil)
      rw [if_pos (by rfl)]
      obtain ⟨v2, V2, hrun, hO2, hb2⟩ := run_appI 28 hV.2.1 hV.2.2 (by rw [List.nil_append]; omega) (by decide) hV.1.size
      refine wp_app _ _ 28 rfl v1 (.slice (some ⟨gs, 0, none⟩) 1 1) rfl rfl v2 V2 hrun ?_
      have hb5 : Bl w2 V2 := Below.trans hV.1 hb2
      refine hK.out (fun W => Bl w2 W ∧ OwI W w2.heap.size v2 ([] ++ its ++ [tt])) _ _ (OwI.stays w2 v2 _) (fun _ W h => hS0w W h.1) ⟨hb5, hO2⟩ ?_
      clear hK K hV hrun hO2 hb2 hb5
      (try simp only [Act.put, List.getElem_toArray, List.getElem_cons_zero, List.getElem_cons_succ, List.setIfInBounds_toArray, List.set_cons_zero, List.set_cons_succ])
      refine wpDet_ready (rs := [13]) (by kernel_rfl) (by simp) (AllDet.cons rfl (fun V hV K hK => ?_) AllDet.nil)
      rw [if_pos (by rfl)]
      refine wp_value (.pointer (some ⟨gx, 0, none⟩)) V (by first | (go_simp; done) | (go_simp; rfl)) ?_
      refine hK.out (fun W => Bl w2 W ∧ OwI W w2.heap.size v2 ([] ++ its ++ [tt])) _ _ (OwI.stays w2 v2 _) (fun _ W h => hS0w W h.1) hV ?_
      clear hK K hV
      (try simp only [Act.put, List.getElem_toArray, List.getElem_cons_zero, List.getElem_cons_succ, List.setIfInBounds_toArray, List.set_cons_zero, List.set_cons_succ])
      refine wpDet_ready (rs := [14]) (by kernel_rfl) (by simp) (AllDet.cons rfl (fun V hV K hK => ?_) AllDet.nil)
      rw [if_pos (by rfl)]
      refine wp_value (.pointer (some ⟨gx, 0, none⟩)) V (by first | (go_simp; done) | (go_simp; rfl)) ?_
      refine hK.out (fun W => Bl w2 W ∧ OwI W w2.heap.size v2 ([] ++ its ++ [tt])) _ _ (OwI.stays w2 v2 _) (fun _ W h => hS0w W h.1) hV ?_
      clear hK K hV
      (try simp only [Act.put, List.getElem_toArray, List.getElem_cons_zero, List.getElem_cons_succ, List.setIfInBounds_toArray, List.set_cons_zero, List.set_cons_succ])
      refine wpDet_ready (rs := [15]) (by kernel_rfl) (by simp) (AllDet.cons rfl (fun V hV K hK => ?_) AllDet.nil)
      rw [if_pos (by rfl)]
      obtain ⟨q3, d3, rfl, hq3, hr3⟩ := hV.2.rd
      have hXV := hX2.below hV.1
      refine wp_store_slice _ _ _ rfl gx 0 q3 _ d3 _ rfl rfl sizeSlI hXV.c0 (hXV.blk.free 0) ?_
      have hz := hXV.put hr3 (fun a e _ => by have := hq3 a e; have := hX2.blk.lt; omega)
      have hez : Ex gx w2 (V.setCell ⟨gx, 0, none⟩ (.slice q3 ([] ++ its ++ [tt]).length d3)) := (Ex.of_below hV.1).setCell 0 _
      refine hK.out (fun W => (∃ q m d, XB W gx q m d bs lost ([] ++ its ++ [tt])) ∧ Ex gx w2 W) _ _ (fun W W' h hb => ⟨by obtain ⟨q, m, d, hx⟩ := h.1; exact ⟨q, m, d, hx.below hb⟩, h.2.trans (Ex.of_below hb)⟩) (no_lean (by kernel_rfl)) ⟨⟨_, _, _, hz⟩, hez⟩ ?_
      clear hK K hV hXV hz hez hr3 hq3
      (try simp only [Act.put, List.getElem_toArray, List.getElem_cons_zero, List.getElem_cons_succ, List.setIfInBounds_toArray, List.set_cons_zero, List.set_cons_succ])
      refine wpDet_done (by kernel_rfl) (fun W6 hW6 => ?_) _
      obtain ⟨hz6, hez6⟩ := hW6
      clear hX2 hS0w
      go_wp2_with fail
      go_ret
      refine ⟨rfl, ?_, (Ex.of_below hb0).trans hez6⟩
      rw [List.nil_append] at hz6
      exact hz6
  · rw [if_pos (by rfl)]
    refine wp_value (.slice (some ⟨V.heap.size, 0, none⟩) 1 1) (V.alloc (.cells #[.int .i64 tt.1, .int .i64 tt.2.1, .string tt.2.2] 77)) (by first | (go_simp; done) | (go_simp; rfl)) ?_
    have hba := below_alloc V (.cells #[.int .i64 tt.1, .int .i64 tt.2.1, .string tt.2.2] 77)
    have hO : RdI (V.alloc (.cells #[.int .i64 tt.1, .int .i64 tt.2.1, .string tt.2.2] 77)) (some ⟨V.heap.size, 0, none⟩) 1 1 [tt] := rdI_one V tt.1 tt.2.1 tt.2.2
    have hb5 := Bl.stays w2 V _ hV hba
    have hka : True := trivial
    obtain ⟨gs, hgs⟩ : ∃ z, z = V.heap.size := ⟨_, rfl⟩
    rw [← hgs] at hO ⊢
    refine hK.out (fun W => Bl w2 W ∧ True ∧ RdI W (some ⟨gs, 0, none⟩) 1 1 [tt]) _ _ (fun W W' h hb => ⟨Bl.stays w2 W W' h.1 hb, h.2.1, RdI.below h.2.2 hb⟩) (fun _ W h => hS0w W h.1) ⟨hb5, hka, hO⟩ ?_
    clear hK K hV hba hO hb5 hka hgs
    (try simp only [Act.put, List.getElem_toArray, List.getElem_cons_zero, List.getElem_cons_succ, List.setIfInBounds_toArray, List.set_cons_zero, List.set_cons_succ])
    refine wpDet_ready (rs := [1]) (by kernel_rfl) (by simp) (AllDet.cons rfl (fun V hV K hK => ?_) AllDet.nil)
    rw [if_pos (by rfl)]
    refine wp_value (.slice (some ⟨V.heap.size, 0, none⟩) 0 0) (V.alloc (.cells #[] 77)) (by first | (go_simp; done) | (go_simp; rfl)) ?_
    have hba := below_alloc V (.cells #[] 77)
    have hO := OwI.empty V hV.1.size
    have hb5 := Bl.stays w2 V _ hV.1 hba
    have hkb : RdI (V.alloc (.cells #[] 77)) (some ⟨gs, 0, none⟩) 1 1 [tt] := RdI.below hV.2.2 hba
    have hne : gs ≠ V.heap.size := by have := RdI.blt hV.2.2 (by decide); omega
    obtain ⟨ge, hge⟩ : ∃ z, z = V.heap.size := ⟨_, rfl⟩
    rw [← hge] at hO ⊢
    rw [← hge] at hne
    refine hK.out (fun W => Bl w2 W ∧ OwI W w2.heap.size (.slice (some ⟨ge, 0, none⟩) 0 0) [] ∧ RdI W (some ⟨gs, 0, none⟩) 1 1 [tt]) _ _ (fun W W' h hb => ⟨Bl.stays w2 W W' h.1 hb, OwI.below h.2.1 hb, RdI.below h.2.2 hb⟩) (fun _ W h => hS0w W h.1) ⟨hb5, hO, hkb⟩ ?_
    clear hK K hV hba hO hb5 hkb hge
    (try simp only [Act.put, List.getElem_toArray, List.getElem_cons_zero, List.getElem_cons_succ, List.setIfInBounds_toArray, List.set_cons_zero, List.set_cons_succ])
    refine wpDet_ready (rs := [6]) (by kernel_rfl) (by simp) (AllDet.cons rfl (fun V hV K hK => ?_) AllDet.nil)
    rw [if_pos (by rfl)]
    obtain ⟨v1, V1, hrun, hO1, hb1, hg1⟩ := run_appI2 28 hV.2.1 (hX2.below hV.1).rd (Nat.zero_le _) (by omega) hV.1.size
    refine wp_app _ _ 28 rfl (.slice (some ⟨ge, 0, none⟩) 0 0) (.slice p n c) rfl rfl v1 V1 hrun ?_
    have hb5 : Bl w2 V1 := Below.trans hV.1 hb1
    have hkb : RdI V1 (some ⟨gs, 0, none⟩) 1 1 [tt] := RdI.blockEq hV.2.2 (hg1.block gs (RdI.blt hV.2.2 (by decide)) (fun e => hne (Option.some.inj e)))
    refine hK.out (fun W => Bl w2 W ∧ OwI W w2.heap.size v1 ([] ++ its) ∧ RdI W (some ⟨gs, 0, none⟩) 1 1 [tt]) _ _ (fun W W' h hb => ⟨Bl.stays w2 W W' h.1 hb, OwI.below h.2.1 hb, RdI.below h.2.2 hb⟩) (fun _ W h => hS0w W h.1) ⟨hb5, hO1, hkb⟩ ?_
    clear hK K hV hrun hO1 hb1 hb5 hkb hg1
    (try simp only [Act.put, List.getElem_toArray, List.getElem_cons_zero, List.getElem_cons_succ, List.setIfInBounds_toArray, List.set_cons_zero, List.set_cons_succ])
    refine wpDet_ready (rs := [12]) (by kernel_rfl) (by simp) (AllDet.cons rfl (fun V hV K hK => ?_) AllDet.nil)
    rw [if_pos (by rfl)]
    obtain ⟨v2, V2, hrun, hO2, hb2⟩ := run_appI 28 hV.2.1 hV.2.2 (by rw [List.nil_append]; omega) (by decide) hV.1.size
    refine wp_app _ _ 28 rfl v1 (.slice (some ⟨gs, 0, none⟩) 1 1) rfl rfl v2 V2 hrun ?_
    have hb5 : Bl w2 V2 := Below.trans hV.1 hb2
    refine hK.out (fun W => Bl w2 W ∧ OwI W w2.heap.size v2 ([] ++ its ++ [tt])) _ _ (OwI.stays w2 v2 _) (fun _ W h => hS0w W h.1) ⟨hb5, hO2⟩ ?_
    clear hK K hV hrun hO2 hb2 hb5
    (try simp only [Act.put, List.getElem_toArray, List.getElem_cons_zero, List.getElem_cons_succ, List.setIfInBounds_toArray, List.set_cons_zero, List.set_cons_succ])
    refine wpDet_ready (rs := [13]) (by kernel_rfl) (by simp) (AllDet.cons rfl (fun V hV K hK => ?_) AllDet.nil)
    rw [if_pos (by rfl)]
    refine wp_value (.pointer (some ⟨gx, 0, none⟩)) V (by first | (go_simp; done) | (go_simp; rfl)) ?_
    refine hK.out (fun W => Bl w2 W ∧ OwI W w2.heap.size v2 ([] ++ its ++ [tt])) _ _ (OwI.stays w2 v2 _) (fun _ W h => hS0w W h.1) hV ?_
    clear hK K hV
    (try simp only [Act.put, List.getElem_toArray, List.getElem_cons_zero, List.getElem_cons_succ, List.setIfInBounds_toArray, List.set_cons_zero, List.set_cons_succ])
    refine wpDet_ready (rs := [14]) (by kernel_rfl) (by simp) (AllDet.cons rfl (fun V hV K hK => ?_) AllDet.nil)
    rw [if_pos (by rfl)]
    refine wp_value (.pointer (some ⟨gx, 0, none⟩)) V (by first | (go_simp; done) | (go_simp; rfl)) ?_
    refine hK.out (fun W => Bl w2 W ∧ OwI W w2.heap.size v2 ([] ++ its ++ [tt])) _ _ (OwI.stays w2 v2 _) (fun _ W h => hS0w W h.1) hV ?_
    clear hK K hV
    (try simp only [Act.put, List.getElem_toArray, List.getElem_cons_zero, List.getElem_cons_succ, List.setIfInBounds_toArray, List.set_cons_zero, List.set_cons_succ])
    refine wpDet_ready (rs := [15]) (by kernel_rfl) (by simp) (AllDet.cons rfl (fun V hV K hK => ?_) AllDet.nil)
    rw [if_pos (by rfl)]
    obtain ⟨q3, d3, rfl, hq3, hr3⟩ := hV.2.rd
    have hXV := hX2.below hV.1
    refine wp_store_slice _ _ _ rfl gx 0 q3 _ d3 _ rfl rfl sizeSlI hXV.c0 (hXV.blk.free 0) ?_
    have hz := hXV.put hr3 (fun a e _ => by have := hq3 a e; have := hX2.blk.lt; omega)
    have hez : Ex gx w2 (V.setCell ⟨gx, 0, none⟩ (.slice q3 ([] ++ its ++ [tt]).length d3)) := (Ex.of_below hV.1).setCell 0 _
    refine hK.out (fun W => (∃ q m d, XB W gx q m d bs lost ([] ++ its ++ [tt])) ∧ Ex gx w2 W) _ _ (fun W W' h hb => ⟨by obtain ⟨q, m, d, hx⟩ := h.1; exact ⟨q, m, d, hx.below hb⟩, h.2.trans (Ex.of_below hb)⟩) (no_lean (by kernel_rfl)) ⟨⟨_, _, _, hz⟩, hez⟩ ?_
    clear hK K hV hXV hz hez hr3 hq3
    (try simp only [Act.put, List.getElem_toArray, List.getElem_cons_zero, List.getElem_cons_succ, List.setIfInBounds_toArray, List.set_cons_zero, List.set_cons_succ])
    refine wpDet_done (by kernel_rfl) (fun W6 hW6 => ?_) _
    obtain ⟨hz6, hez6⟩ := hW6
    clear hX2 hS0w
    go_wp2_with fail
    go_ret
    refine ⟨rfl, ?_, (Ex.of_below hb0).trans hez6⟩
    rw [List.nil_append] at hz6
    exact hz6

set_option maxRecDepth 20000 in
set_option maxHeartbeats 4000000 in
theorem rDouble_ok {w : World} {gx : Nat} {p : Option Addr} {n c : Nat} {bs : List Bool} {lost : Int} {its : List It} (h : XB w gx p n c bs lost its) (hn : n ≤ 1000000) (x y i : Int) {at_ : Nat} (hp : plR x y its i 0 = some at_) (hf : (itN its x y).length < 8) :
    Calls Try.prog 33 #[.pointer (some ⟨gx, 0, none⟩), .agg #[.int .i64 x, .int .i64 y], .int .i64 i] w fun o w' => o = .returned (.int .i64 0) ∧ (∃ q m d, XB w' gx q m d bs lost (its ++ [its.getD at_ (0, 0, ByteArray.empty)])) ∧ Ex gx w w' := by
  have hba := below_alloc w (.cells #[.int .i64 x, .int .i64 y] 33)
  have hA := At.new 33 w #[.int .i64 x, .int .i64 y]
  obtain ⟨a0, a1⟩ := hA.two
  have h1 := h.below hba
  have hP := rplace_any _ gx p n c its h1.c0 h1.rd hn x y i
  have hV : plV x y its i = (at_ : Int) := by unfold plV; rw [hp]; rfl
  rw [hV] at hP
  obtain ⟨tt, htt⟩ : ∃ z, Hid (z = its.getD at_ (0, 0, ByteArray.empty)) := ⟨_, rfl⟩
  rw [← htt.out]
  have hlt : at_ < n := by have := (plR_some x y its i 0 at_ hp).1.2; rw [h.rd.len] at this; omega
  have hng : ¬ (at_ : Int) < 0 := by omega
  clear h hV hp
  go_enter Try.func33, Try.ntmps33
  go_wp2_with fail
  refine hP.mono ?_
  rintro o w1 ⟨rfl, hw⟩
  clear hP a0 a1
  have hb1 := hba.trans (hw.mono hba.size)
  have h2 := h1.below hw
  have hA1 := hA.below hw
  obtain ⟨a0, a1⟩ := hA1.two
  have hL := rLen_any w1 gx p n c its h2.c0 h2.rd hn x y
  obtain ⟨K, HK⟩ : ∃ z, Hid ((itN its x y).length = z) := ⟨_, rfl⟩
  rw [HK.out] at hL hf
  have hg : decide ((8 : Int) ≤ (K : Int)) = false := decide_eq_false (by omega)
  clear hA hw hba h1
  go_wp2_with fail
  refine hL.mono ?_
  rintro o w2 ⟨rfl, hw2⟩
  clear hL a0 a1
  have hX2 := h2.below hw2
  have hb0 := hb1.trans (hw2.mono hb1.size)
  have hcap := hX2.rd.cap
  have hlen := hX2.rd.len
  clear h2 hw2 hA1 hb1 HK hf
  obtain ⟨gb, go, rfl, -⟩ := hX2.rd.cells (by omega)
  have hS0w : ∀ W, Bl w2 W → XB W gx (some ⟨gb, go, none⟩) n c bs lost its ∧ W.rangeAt gb (go + at_ * 3) [.int .i64 tt.1, .int .i64 tt.2.1, .string tt.2.2] := fun W h => ⟨hX2.below h, RdI.range (hX2.below h).rd hlt htt.out⟩
  clear htt
  go_wp2_with fail
  have hS0 : Bl w2 w2.drew := (Below.refl _ _).drew
  refine wp_region_det [0, 2, 3, 4, 5, 7, 8, 9, 10, 11, 12, 13] (fun W => XB W gx (some ⟨gb, go, none⟩) n c bs lost its ∧ W.rangeAt gb (go + at_ * 3) [.int .i64 tt.1, .int .i64 tt.2.1, .string tt.2.2]) (Bl w2) (by kernel_rfl) hS0 ?_
  refine wpDet_take ?vA0 (Bl.stays w2) hS0w (i := 0) rfl (by kernel_rfl) (by kernel_rfl) (by kernel_rfl) (by kernel_rfl) (fun _ _ _ h => h) (Gives.value (by rfl) ?yA0) ?rA0
  case yA0 => (intro w' hSw; go_simp; try with_reducible rfl)
  (try simp only [Act.put, List.getElem_toArray, List.getElem_cons_zero, List.getElem_cons_succ, List.setIfInBounds_toArray, List.set_cons_zero, List.set_cons_succ])
  refine wpDet_take ?vA2 (Bl.stays w2) hS0w (i := 2) rfl (by kernel_rfl) (by kernel_rfl) (by kernel_rfl) (by kernel_rfl) (fun _ _ _ h => h) (Gives.value (by rfl) ?yA2) ?rA2
  case yA2 => (intro w' hSw; go_simp; try with_reducible rfl)
  (try simp only [Act.put, List.getElem_toArray, List.getElem_cons_zero, List.getElem_cons_succ, List.setIfInBounds_toArray, List.set_cons_zero, List.set_cons_succ])
  refine wpDet_take ?vA3 (Bl.stays w2) hS0w (i := 3) rfl (by kernel_rfl) (by kernel_rfl) (by kernel_rfl) (by kernel_rfl) (fun _ _ _ h => h) (Gives.value (by rfl) ?yA3) ?rA3
  case yA3 => (intro w' hSw; go_simp; try with_reducible rfl)
  (try simp only [Act.put, List.getElem_toArray, List.getElem_cons_zero, List.getElem_cons_succ, List.setIfInBounds_toArray, List.set_cons_zero, List.set_cons_succ])
  refine wpDet_take ?vA4 (Bl.stays w2) hS0w (i := 4) rfl (by kernel_rfl) (by kernel_rfl) (by kernel_rfl) (by kernel_rfl) (fun _ _ _ h => h) (Gives.value (by rfl) ?yA4) ?rA4
  case yA4 => (intro w' hSw; go_simp; try with_reducible rfl)
  (try simp only [Act.put, List.getElem_toArray, List.getElem_cons_zero, List.getElem_cons_succ, List.setIfInBounds_toArray, List.set_cons_zero, List.set_cons_succ])
  refine wpDet_take ?vA5 (Bl.stays w2) hS0w (i := 5) rfl (by kernel_rfl) (by kernel_rfl) (by kernel_rfl) (by kernel_rfl) (fun _ _ _ h => h) (Gives.value (by rfl) ?yA5) ?rA5
  case yA5 => (intro w' hSw; have hz0 := hSw.1.c0; go_simp; try with_reducible rfl)
  (try simp only [Act.put, List.getElem_toArray, List.getElem_cons_zero, List.getElem_cons_succ, List.setIfInBounds_toArray, List.set_cons_zero, List.set_cons_succ])
  refine wpDet_take ?vA7 (Bl.stays w2) hS0w (i := 7) rfl (by kernel_rfl) (by kernel_rfl) (by kernel_rfl) (by kernel_rfl) (fun _ _ _ h => h) (Gives.value (by rfl) ?yA7) ?rA7
  case yA7 => (intro w' hSw; go_simp; try with_reducible rfl)
  (try simp only [Act.put, List.getElem_toArray, List.getElem_cons_zero, List.getElem_cons_succ, List.setIfInBounds_toArray, List.set_cons_zero, List.set_cons_succ])
  refine wpDet_take ?vA8 (Bl.stays w2) hS0w (i := 8) rfl (by kernel_rfl) (by kernel_rfl) (by kernel_rfl) (by kernel_rfl) (fun _ _ _ h => h) (Gives.value (by rfl) ?yA8) ?rA8
  case yA8 => (intro w' hSw; go_simp; try with_reducible rfl)
  (try simp only [Act.put, List.getElem_toArray, List.getElem_cons_zero, List.getElem_cons_succ, List.setIfInBounds_toArray, List.set_cons_zero, List.set_cons_succ])
  refine wpDet_take ?vA9 (Bl.stays w2) hS0w (i := 9) rfl (by kernel_rfl) (by kernel_rfl) (by kernel_rfl) (by kernel_rfl) (fun _ _ _ h => h) (Gives.value (by rfl) ?yA9) ?rA9
  case yA9 => (intro w' hSw; go_simp; try with_reducible rfl)
  (try simp only [Act.put, List.getElem_toArray, List.getElem_cons_zero, List.getElem_cons_succ, List.setIfInBounds_toArray, List.set_cons_zero, List.set_cons_succ])
  refine wpDet_take ?vA10 (Bl.stays w2) hS0w (i := 10) rfl (by kernel_rfl) (by kernel_rfl) (by kernel_rfl) (by kernel_rfl) (fun _ _ _ h => h) (Gives.value (by rfl) ?yA10) ?rA10
  case yA10 => (intro w' hSw; have hz0 := hSw.1.c0; go_simp; try with_reducible rfl)
  (try simp only [Act.put, List.getElem_toArray, List.getElem_cons_zero, List.getElem_cons_succ, List.setIfInBounds_toArray, List.set_cons_zero, List.set_cons_succ])
  refine wpDet_take ?vA11 (Bl.stays w2) hS0w (i := 11) rfl (by kernel_rfl) (by kernel_rfl) (by kernel_rfl) (by kernel_rfl) (fun _ _ _ h => h) (Gives.value (by rfl) ?yA11) ?rA11
  case yA11 => (intro w' hSw; go_simp; try with_reducible rfl)
  (try simp only [Act.put, List.getElem_toArray, List.getElem_cons_zero, List.getElem_cons_succ, List.setIfInBounds_toArray, List.set_cons_zero, List.set_cons_succ])
  refine wpDet_take (.pointer (some ⟨gb, go + at_ * 3, none⟩)) (Bl.stays w2) hS0w (i := 12) rfl (by kernel_rfl) (by kernel_rfl) (by kernel_rfl) (by kernel_rfl) (fun _ _ _ h => h) (Gives.value (by rfl) ?yA12) ?rA12
  case yA12 => (intro w' hSw; go_simp; (try (intro hh; omega)))
  (try simp only [Act.put, List.getElem_toArray, List.getElem_cons_zero, List.getElem_cons_succ, List.setIfInBounds_toArray, List.set_cons_zero, List.set_cons_succ])
  refine wpDet_take _ (Bl.stays w2) hS0w (i := 13) rfl (by kernel_rfl) (by kernel_rfl) (by kernel_rfl) (by kernel_rfl) (fun _ _ _ h => h) (Gives.of_yields (yieldsIf_load_mid (by rfl) _ _ rfl _ _ rfl _ _ (fun W h => h.2) Try.underlying77 rfl sizeIt)) ?_
  (try simp only [Act.put, List.getElem_toArray, List.getElem_cons_zero, List.getElem_cons_succ, List.setIfInBounds_toArray, List.set_cons_zero, List.set_cons_succ])
  refine wpDet_ready (rs := [1, 14]) (by kernel_rfl) (by simp) (AllDet.cons rfl (fun V hV K hK => ?_) (AllDet.cons rfl (fun V hV K hK => ?_) AllDet.nil))
  · rw [if_pos (by rfl)]
    refine wp_value (.slice (some ⟨V.heap.size, 0, none⟩) 0 0) (V.alloc (.cells #[] 77)) (by first | (go_simp; done) | (go_simp; rfl)) ?_
    have hba := below_alloc V (.cells #[] 77)
    have hO := OwI.empty V hV.size
    have hb5 := Bl.stays w2 V _ hV hba
    have hkb : True := trivial
    obtain ⟨ge, hge⟩ : ∃ z, z = V.heap.size := ⟨_, rfl⟩
    rw [← hge] at hO ⊢
    refine hK.out (fun W => Bl w2 W ∧ OwI W w2.heap.size (.slice (some ⟨ge, 0, none⟩) 0 0) [] ∧ True) _ _ (fun W W' h hb => ⟨Bl.stays w2 W W' h.1 hb, OwI.below h.2.1 hb, h.2.2⟩) (fun _ W h => hS0w W h.1) ⟨hb5, hO, hkb⟩ ?_
    clear hK K hV hba hO hb5 hkb hge
    (try simp only [Act.put, List.getElem_toArray, List.getElem_cons_zero, List.getElem_cons_succ, List.setIfInBounds_toArray, List.set_cons_zero, List.set_cons_succ])
    refine wpDet_ready (rs := [6, 14]) (by kernel_rfl) (by simp) (AllDet.cons rfl (fun V hV K hK => ?_) (AllDet.cons rfl (fun V hV K hK => ?_) AllDet.nil))
    · rw [if_pos (by rfl)]
      obtain ⟨v1, V1, hrun, hO1, hb1, hg1⟩ := run_appI2 28 hV.2.1 (hX2.below hV.1).rd (Nat.zero_le _) (by omega) hV.1.size
      refine wp_app _ _ 28 rfl (.slice (some ⟨ge, 0, none⟩) 0 0) (.slice (some ⟨gb, go, none⟩) n c) rfl rfl v1 V1 hrun ?_
      have hb5 : Bl w2 V1 := Below.trans hV.1 hb1
      have hkb : True := trivial
      refine hK.out (fun W => Bl w2 W ∧ OwI W w2.heap.size v1 ([] ++ its) ∧ True) _ _ (fun W W' h hb => ⟨Bl.stays w2 W W' h.1 hb, OwI.below h.2.1 hb, h.2.2⟩) (fun _ W h => hS0w W h.1) ⟨hb5, hO1, hkb⟩ ?_
      clear hK K hV hrun hO1 hb1 hb5 hkb hg1
      (try simp only [Act.put, List.getElem_toArray, List.getElem_cons_zero, List.getElem_cons_succ, List.setIfInBounds_toArray, List.set_cons_zero, List.set_cons_succ])
      refine wpDet_ready (rs := [14]) (by kernel_rfl) (by simp) (AllDet.cons rfl (fun V hV K hK => ?_) AllDet.nil)
      rw [if_pos (by rfl)]
      refine wp_value (.slice (some ⟨V.heap.size, 0, none⟩) 1 1) (V.alloc (.cells #[.int .i64 tt.1, .int .i64 tt.2.1, .string tt.2.2] 77)) (by first | (go_simp; done) | (go_simp; rfl)) ?_
      have hba := below_alloc V (.cells #[.int .i64 tt.1, .int .i64 tt.2.1, .string tt.2.2] 77)
      have hO : RdI (V.alloc (.cells #[.int .i64 tt.1, .int .i64 tt.2.1, .string tt.2.2] 77)) (some ⟨V.heap.size, 0, none⟩) 1 1 [tt] := rdI_one V tt.1 tt.2.1 tt.2.2
      have hb5 := Bl.stays w2 V _ hV.1 hba
      have hka : OwI (V.alloc (.cells #[.int .i64 tt.1, .int .i64 tt.2.1, .string tt.2.2] 77)) w2.heap.size v1 ([] ++ its) := OwI.below hV.2.1 hba
      obtain ⟨gs, hgs⟩ : ∃ z, z = V.heap.size := ⟨_, rfl⟩
      rw [← hgs] at hO ⊢
      refine hK.out (fun W => Bl w2 W ∧ OwI W w2.heap.size v1 ([] ++ its) ∧ RdI W (some ⟨gs, 0, none⟩) 1 1 [tt]) _ _ (fun W W' h hb => ⟨Bl.stays w2 W W' h.1 hb, OwI.below h.2.1 hb, RdI.below h.2.2 hb⟩) (fun _ W h => hS0w W h.1) ⟨hb5, hka, hO⟩ ?_
      clear hK K hV hba hO hb5 hka hgs
      (try simp only [Act.put, List.getElem_toArray, List.getElem_cons_zero, List.getElem_cons_succ, List.setIfInBounds_toArray, List.set_cons_zero, List.set_cons_succ])
      refine wpDet_ready (rs := [15]) (by kernel_rfl) (by simp) (AllDet.cons rfl (fun V hV K hK => ?_) AllDet.nil)
      rw [if_pos (by rfl)]
      obtain ⟨v2, V2, hrun, hO2, hb2⟩ := run_appI 28 hV.2.1 hV.2.2 (by rw [List.nil_append]; omega) (by decide) hV.1.size
      refine wp_app _ _ 28 rfl v1 (.slice (some ⟨gs, 0, none⟩) 1 1) rfl rfl v2 V2 hrun ?_
      have hb5 : Bl w2 V2 := Below.trans hV.1 hb2
      refine hK.out (fun W => Bl w2 W ∧ OwI W w2.heap.size v2 ([] ++ its ++ [tt])) _ _ (OwI.stays w2 v2 _) (fun _ W h => hS0w W h.1) ⟨hb5, hO2⟩ ?_
      clear hK K hV hrun hO2 hb2 hb5
      (try simp only [Act.put, List.getElem_toArray, List.getElem_cons_zero, List.getElem_cons_succ, List.setIfInBounds_toArray, List.set_cons_zero, List.set_cons_succ])
      refine wpDet_ready (rs := [16]) (by kernel_rfl) (by simp) (AllDet.cons rfl (fun V hV K hK => ?_) AllDet.nil)
      rw [if_pos (by rfl)]
      refine wp_value (.pointer (some ⟨gx, 0, none⟩)) V (by first | (go_simp; done) | (go_simp; rfl)) ?_
      refine hK.out (fun W => Bl w2 W ∧ OwI W w2.heap.size v2 ([] ++ its ++ [tt])) _ _ (OwI.stays w2 v2 _) (fun _ W h => hS0w W h.1) hV ?_
      clear hK K hV
      (try simp only [Act.put, List.getElem_toArray, List.getElem_cons_zero, List.getElem_cons_succ, List.setIfInBounds_toArray, List.set_cons_zero, List.set_cons_succ])
      refine wpDet_ready (rs := [17]) (by kernel_rfl) (by simp) (AllDet.cons rfl (fun V hV K hK => ?_) AllDet.nil)
      rw [if_pos (by rfl)]
      refine wp_value (.pointer (some ⟨gx, 0, none⟩)) V (by first | (go_simp; done) | (go_simp; rfl)) ?_
      refine hK.out (fun W => Bl w2 W ∧ OwI W w2.heap.size v2 ([] ++ its ++ [tt])) _ _ (OwI.stays w2 v2 _) (fun _ W h => hS0w W h.1) hV ?_
      clear hK K hV
      (try simp only [Act.put, List.getElem_toArray, List.getElem_cons_zero, List.getElem_cons_succ, List.setIfInBounds_toArray, List.set_cons_zero, List.set_cons_succ])
      refine wpDet_ready (rs := [18]) (by kernel_rfl) (by simp) (AllDet.cons rfl (fun V hV K hK => ?_) AllDet.nil)
      rw [if_pos (by rfl)]
      obtain ⟨q3, d3, rfl, hq3, hr3⟩ := hV.2.rd
      have hXV := hX2.below hV.1
      refine wp_store_slice _ _ _ rfl gx 0 q3 _ d3 _ rfl rfl sizeSlI hXV.c0 (hXV.blk.free 0) ?_
      have hz := hXV.put hr3 (fun a e _ => by have := hq3 a e; have := hX2.blk.lt; omega)
      have hez : Ex gx w2 (V.setCell ⟨gx, 0, none⟩ (.slice q3 ([] ++ its ++ [tt]).length d3)) := (Ex.of_below hV.1).setCell 0 _
      refine hK.out (fun W => (∃ q m d, XB W gx q m d bs lost ([] ++ its ++ [tt])) ∧ Ex gx w2 W) _ _ (fun W W' h hb => ⟨by obtain ⟨q, m, d, hx⟩ := h.1; exact ⟨q, m, d, hx.below hb⟩, h.2.trans (Ex.of_below hb)⟩) (no_lean (by kernel_rfl)) ⟨⟨_, _, _, hz⟩, hez⟩ ?_
      clear hK K hV hXV hz hez hr3 hq3
      (try simp only [Act.put, List.getElem_toArray, List.getElem_cons_zero, List.getElem_cons_succ, List.setIfInBounds_toArray, List.set_cons_zero, List.set_cons_succ])
      refine wpDet_done (by kernel_rfl) (fun W6 hW6 => ?_) _
      obtain ⟨hz6, hez6⟩ := hW6
      clear hX2 hS0w
      go_wp2_with fail
      go_ret
      refine ⟨rfl, ?_, (Ex.of_below hb0).trans hez6⟩
      rw [List.nil_append] at hz6
      exact hz6
    · rw [if_pos (by rfl)]
      refine wp_value (.slice (some ⟨V.heap.size, 0, none⟩) 1 1) (V.alloc (.cells #[.int .i64 tt.1, .int .i64 tt.2.1, .string tt.2.2] 77)) (by first | (go_simp; done) | (go_simp; rfl)) ?_
      have hba := below_alloc V (.cells #[.int .i64 tt.1, .int .i64 tt.2.1, .string tt.2.2] 77)
      have hO : RdI (V.alloc (.cells #[.int .i64 tt.1, .int .i64 tt.2.1, .string tt.2.2] 77)) (some ⟨V.heap.size, 0, none⟩) 1 1 [tt] := rdI_one V tt.1 tt.2.1 tt.2.2
      have hb5 := Bl.stays w2 V _ hV.1 hba
      have hka : OwI (V.alloc (.cells #[.int .i64 tt.1, .int .i64 tt.2.1, .string tt.2.2] 77)) w2.heap.size (.slice (some ⟨ge, 0, none⟩) 0 0) [] := OwI.below hV.2.1 hba
      have hne : V.heap.size ≠ ge := by have := (World.ownsRow.lt hV.2.1 ge rfl).2; omega
      obtain ⟨gs, hgs⟩ : ∃ z, z = V.heap.size := ⟨_, rfl⟩
      rw [← hgs] at hO ⊢
      rw [← hgs] at hne
      refine hK.out (fun W => Bl w2 W ∧ OwI W w2.heap.size (.slice (some ⟨ge, 0, none⟩) 0 0) [] ∧ RdI W (some ⟨gs, 0, none⟩) 1 1 [tt]) _ _ (fun W W' h hb => ⟨Bl.stays w2 W W' h.1 hb, OwI.below h.2.1 hb, RdI.below h.2.2 hb⟩) (fun _ W h => hS0w W h.1) ⟨hb5, hka, hO⟩ ?_
      clear hK K hV hba hO hb5 hka hgs
      (try simp only [Act.put, List.getElem_toArray, List.getElem_cons_zero, List.getElem_cons_succ, List.setIfInBounds_toArray, List.set_cons_zero, List.set_cons_succ])
      refine wpDet_ready (rs := [6]) (by kernel_rfl) (by simp) (AllDet.cons rfl (fun V hV K hK => ?_) AllDet.nil)
      rw [if_pos (by rfl)]
      obtain ⟨v1, V1, hrun, hO1, hb1, hg1⟩ := run_appI2 28 hV.2.1 (hX2.below hV.1).rd (Nat.zero_le _) (by omega) hV.1.size
      refine wp_app _ _ 28 rfl (.slice (some ⟨ge, 0, none⟩) 0 0) (.slice (some ⟨gb, go, none⟩) n c) rfl rfl v1 V1 hrun ?_
      have hb5 : Bl w2 V1 := Below.trans hV.1 hb1
      have hkb : RdI V1 (some ⟨gs, 0, none⟩) 1 1 [tt] := RdI.blockEq hV.2.2 (hg1.block gs (RdI.blt hV.2.2 (by decide)) (fun e => hne (Option.some.inj e)))
      refine hK.out (fun W => Bl w2 W ∧ OwI W w2.heap.size v1 ([] ++ its) ∧ RdI W (some ⟨gs, 0, none⟩) 1 1 [tt]) _ _ (fun W W' h hb => ⟨Bl.stays w2 W W' h.1 hb, OwI.below h.2.1 hb, RdI.below h.2.2 hb⟩) (fun _ W h => hS0w W h.1) ⟨hb5, hO1, hkb⟩ ?_
      clear hK K hV hrun hO1 hb1 hb5 hkb hg1
      (try simp only [Act.put, List.getElem_toArray, List.getElem_cons_zero, List.getElem_cons_succ, List.setIfInBounds_toArray, List.set_cons_zero, List.set_cons_succ])
      refine wpDet_ready (rs := [15]) (by kernel_rfl) (by simp) (AllDet.cons rfl (fun V hV K hK => ?_) AllDet.nil)
      rw [if_pos (by rfl)]
      obtain ⟨v2, V2, hrun, hO2, hb2⟩ := run_appI 28 hV.2.1 hV.2.2 (by rw [List.nil_append]; omega) (by decide) hV.1.size
      refine wp_app _ _ 28 rfl v1 (.slice (some ⟨gs, 0, none⟩) 1 1) rfl rfl v2 V2 hrun ?_
      have hb5 : Bl w2 V2 := Below.trans hV.1 hb2
      refine hK.out (fun W => Bl w2 W ∧ OwI W w2.heap.size v2 ([] ++ its ++ [tt])) _ _ (OwI.stays w2 v2 _) (fun _ W h => hS0w W h.1) ⟨hb5, hO2⟩ ?_
      clear hK K hV hrun hO2 hb2 hb5
      (try simp only [Act.put, List.getElem_toArray, List.getElem_cons_zero, List.getElem_cons_succ, List.setIfInBounds_toArray, List.set_cons_zero, List.set_cons_succ])
      refine wpDet_ready (rs := [16]) (by kernel_rfl) (by simp) (AllDet.cons rfl (fun V hV K hK => ?_) AllDet.nil)
      rw [if_pos (by rfl)]
      refine wp_value (.pointer (some ⟨gx, 0, none⟩)) V (by first | (go_simp; done) | (go_simp; rfl)) ?_
      refine hK.out (fun W => Bl w2 W ∧ OwI W w2.heap.size v2 ([] ++ its ++ [tt])) _ _ (OwI.stays w2 v2 _) (fun _ W h => hS0w W h.1) hV ?_
      clear hK K hV
      (try simp only [Act.put, List.getElem_toArray, List.getElem_cons_zero, List.getElem_cons_succ, List.setIfInBounds_toArray, List.set_cons_zero, List.set_cons_succ])
      refine wpDet_ready (rs := [17]) (by kernel_rfl) (by simp) (AllDet.cons rfl (fun V hV K hK => ?_) AllDet.nil)
      rw [if_pos (by rfl)]
      refine wp_value (.pointer (some ⟨gx, 0, none⟩)) V (by first | (go_simp; done) | (go_simp; rfl)) ?_
      refine hK.out (fun W => Bl w2 W ∧ OwI W w2.heap.size v2 ([] ++ its ++ [tt])) _ _ (OwI.stays w2 v2 _) (fun _ W h => hS0w W h.1) hV ?_
      clear hK K hV
      (try simp only [Act.put, List.getElem_toArray, List.getElem_cons_zero, List.getElem_cons_succ, List.setIfInBounds_toArray, List.set_cons_zero, List.set_cons_succ])
      refine wpDet_ready (rs := [18]) (by kernel_rfl) (by simp) (AllDet.cons rfl (fun V hV K hK => ?_) AllDet.nil)
      rw [if_pos (by rfl)]
      obtain ⟨q3, d3, rfl, hq3, hr3⟩ := hV.2.rd
      have hXV := hX2.below hV.1
      refine wp_store_slice _ _ _ rfl gx 0 q3 _ d3 _ rfl rfl sizeSlI hXV.c0 (hXV.blk.free 0) ?_
      have hz := hXV.put hr3 (fun a e _ => by have := hq3 a e; have := hX2.blk.lt; omega)
      have hez : Ex gx w2 (V.setCell ⟨gx, 0, none⟩ (.slice q3 ([] ++ its ++ [tt]).length d3)) := (Ex.of_below hV.1).setCell 0 _
      refine hK.out (fun W => (∃ q m d, XB W gx q m d bs lost ([] ++ its ++ [tt])) ∧ Ex gx w2 W) _ _ (fun W W' h hb => ⟨by obtain ⟨q, m, d, hx⟩ := h.1; exact ⟨q, m, d, hx.below hb⟩, h.2.trans (Ex.of_below hb)⟩) (no_lean (by kernel_rfl)) ⟨⟨_, _, _, hz⟩, hez⟩ ?_
      clear hK K hV hXV hz hez hr3 hq3
      (try simp only [Act.put, List.getElem_toArray, List.getElem_cons_zero, List.getElem_cons_succ, List.setIfInBounds_toArray, List.set_cons_zero, List.set_cons_succ])
      refine wpDet_done (by kernel_rfl) (fun W6 hW6 => ?_) _
      obtain ⟨hz6, hez6⟩ := hW6
      clear hX2 hS0w
      go_wp2_with fail
      go_ret
      refine ⟨rfl, ?_, (Ex.of_below hb0).trans hez6⟩
      rw [List.nil_append] at hz6
      exact hz6
  · rw [if_pos (by rfl)]
    refine wp_value (.slice (some ⟨V.heap.size, 0, none⟩) 1 1) (V.alloc (.cells #[.int .i64 tt.1, .int .i64 tt.2.1, .string tt.2.2] 77)) (by first | (go_simp; done) | (go_simp; rfl)) ?_
    have hba := below_alloc V (.cells #[.int .i64 tt.1, .int .i64 tt.2.1, .string tt.2.2] 77)
    have hO : RdI (V.alloc (.cells #[.int .i64 tt.1, .int .i64 tt.2.1, .string tt.2.2] 77)) (some ⟨V.heap.size, 0, none⟩) 1 1 [tt] := rdI_one V tt.1 tt.2.1 tt.2.2
    have hb5 := Bl.stays w2 V _ hV hba
    have hka : True := trivial
    obtain ⟨gs, hgs⟩ : ∃ z, z = V.heap.size := ⟨_, rfl⟩
    rw [← hgs] at hO ⊢
    refine hK.out (fun W => Bl w2 W ∧ True ∧ RdI W (some ⟨gs, 0, none⟩) 1 1 [tt]) _ _ (fun W W' h hb => ⟨Bl.stays w2 W W' h.1 hb, h.2.1, RdI.below h.2.2 hb⟩) (fun _ W h => hS0w W h.1) ⟨hb5, hka, hO⟩ ?_
    clear hK K hV hba hO hb5 hka hgs
    (try simp only [Act.put, List.getElem_toArray, List.getElem_cons_zero, List.getElem_cons_succ, List.setIfInBounds_toArray, List.set_cons_zero, List.set_cons_succ])
    refine wpDet_ready (rs := [1]) (by kernel_rfl) (by simp) (AllDet.cons rfl (fun V hV K hK => ?_) AllDet.nil)
    rw [if_pos (by rfl)]
    refine wp_value (.slice (some ⟨V.heap.size, 0, none⟩) 0 0) (V.alloc (.cells #[] 77)) (by first | (go_simp; done) | (go_simp; rfl)) ?_
    have hba := below_alloc V (.cells #[] 77)
    have hO := OwI.empty V hV.1.size
    have hb5 := Bl.stays w2 V _ hV.1 hba
    have hkb : RdI (V.alloc (.cells #[] 77)) (some ⟨gs, 0, none⟩) 1 1 [tt] := RdI.below hV.2.2 hba
    have hne : gs ≠ V.heap.size := by have := RdI.blt hV.2.2 (by decide); omega
    obtain ⟨ge, hge⟩ : ∃ z, z = V.heap.size := ⟨_, rfl⟩
    rw [← hge] at hO ⊢
    rw [← hge] at hne
    refine hK.out (fun W => Bl w2 W ∧ OwI W w2.heap.size (.slice (some ⟨ge, 0, none⟩) 0 0) [] ∧ RdI W (some ⟨gs, 0, none⟩) 1 1 [tt]) _ _ (fun W W' h hb => ⟨Bl.stays w2 W W' h.1 hb, OwI.below h.2.1 hb, RdI.below h.2.2 hb⟩) (fun _ W h => hS0w W h.1) ⟨hb5, hO, hkb⟩ ?_
    clear hK K hV hba hO hb5 hkb hge
    (try simp only [Act.put, List.getElem_toArray, List.getElem_cons_zero, List.getElem_cons_succ, List.setIfInBounds_toArray, List.set_cons_zero, List.set_cons_succ])
    refine wpDet_ready (rs := [6]) (by kernel_rfl) (by simp) (AllDet.cons rfl (fun V hV K hK => ?_) AllDet.nil)
    rw [if_pos (by rfl)]
    obtain ⟨v1, V1, hrun, hO1, hb1, hg1⟩ := run_appI2 28 hV.2.1 (hX2.below hV.1).rd (Nat.zero_le _) (by omega) hV.1.size
    refine wp_app _ _ 28 rfl (.slice (some ⟨ge, 0, none⟩) 0 0) (.slice (some ⟨gb, go, none⟩) n c) rfl rfl v1 V1 hrun ?_
    have hb5 : Bl w2 V1 := Below.trans hV.1 hb1
    have hkb : RdI V1 (some ⟨gs, 0, none⟩) 1 1 [tt] := RdI.blockEq hV.2.2 (hg1.block gs (RdI.blt hV.2.2 (by decide)) (fun e => hne (Option.some.inj e)))
    refine hK.out (fun W => Bl w2 W ∧ OwI W w2.heap.size v1 ([] ++ its) ∧ RdI W (some ⟨gs, 0, none⟩) 1 1 [tt]) _ _ (fun W W' h hb => ⟨Bl.stays w2 W W' h.1 hb, OwI.below h.2.1 hb, RdI.below h.2.2 hb⟩) (fun _ W h => hS0w W h.1) ⟨hb5, hO1, hkb⟩ ?_
    clear hK K hV hrun hO1 hb1 hb5 hkb hg1
    (try simp only [Act.put, List.getElem_toArray, List.getElem_cons_zero, List.getElem_cons_succ, List.setIfInBounds_toArray, List.set_cons_zero, List.set_cons_succ])
    refine wpDet_ready (rs := [15]) (by kernel_rfl) (by simp) (AllDet.cons rfl (fun V hV K hK => ?_) AllDet.nil)
    rw [if_pos (by rfl)]
    obtain ⟨v2, V2, hrun, hO2, hb2⟩ := run_appI 28 hV.2.1 hV.2.2 (by rw [List.nil_append]; omega) (by decide) hV.1.size
    refine wp_app _ _ 28 rfl v1 (.slice (some ⟨gs, 0, none⟩) 1 1) rfl rfl v2 V2 hrun ?_
    have hb5 : Bl w2 V2 := Below.trans hV.1 hb2
    refine hK.out (fun W => Bl w2 W ∧ OwI W w2.heap.size v2 ([] ++ its ++ [tt])) _ _ (OwI.stays w2 v2 _) (fun _ W h => hS0w W h.1) ⟨hb5, hO2⟩ ?_
    clear hK K hV hrun hO2 hb2 hb5
    (try simp only [Act.put, List.getElem_toArray, List.getElem_cons_zero, List.getElem_cons_succ, List.setIfInBounds_toArray, List.set_cons_zero, List.set_cons_succ])
    refine wpDet_ready (rs := [16]) (by kernel_rfl) (by simp) (AllDet.cons rfl (fun V hV K hK => ?_) AllDet.nil)
    rw [if_pos (by rfl)]
    refine wp_value (.pointer (some ⟨gx, 0, none⟩)) V (by first | (go_simp; done) | (go_simp; rfl)) ?_
    refine hK.out (fun W => Bl w2 W ∧ OwI W w2.heap.size v2 ([] ++ its ++ [tt])) _ _ (OwI.stays w2 v2 _) (fun _ W h => hS0w W h.1) hV ?_
    clear hK K hV
    (try simp only [Act.put, List.getElem_toArray, List.getElem_cons_zero, List.getElem_cons_succ, List.setIfInBounds_toArray, List.set_cons_zero, List.set_cons_succ])
    refine wpDet_ready (rs := [17]) (by kernel_rfl) (by simp) (AllDet.cons rfl (fun V hV K hK => ?_) AllDet.nil)
    rw [if_pos (by rfl)]
    refine wp_value (.pointer (some ⟨gx, 0, none⟩)) V (by first | (go_simp; done) | (go_simp; rfl)) ?_
    refine hK.out (fun W => Bl w2 W ∧ OwI W w2.heap.size v2 ([] ++ its ++ [tt])) _ _ (OwI.stays w2 v2 _) (fun _ W h => hS0w W h.1) hV ?_
    clear hK K hV
    (try simp only [Act.put, List.getElem_toArray, List.getElem_cons_zero, List.getElem_cons_succ, List.setIfInBounds_toArray, List.set_cons_zero, List.set_cons_succ])
    refine wpDet_ready (rs := [18]) (by kernel_rfl) (by simp) (AllDet.cons rfl (fun V hV K hK => ?_) AllDet.nil)
    rw [if_pos (by rfl)]
    obtain ⟨q3, d3, rfl, hq3, hr3⟩ := hV.2.rd
    have hXV := hX2.below hV.1
    refine wp_store_slice _ _ _ rfl gx 0 q3 _ d3 _ rfl rfl sizeSlI hXV.c0 (hXV.blk.free 0) ?_
    have hz := hXV.put hr3 (fun a e _ => by have := hq3 a e; have := hX2.blk.lt; omega)
    have hez : Ex gx w2 (V.setCell ⟨gx, 0, none⟩ (.slice q3 ([] ++ its ++ [tt]).length d3)) := (Ex.of_below hV.1).setCell 0 _
    refine hK.out (fun W => (∃ q m d, XB W gx q m d bs lost ([] ++ its ++ [tt])) ∧ Ex gx w2 W) _ _ (fun W W' h hb => ⟨by obtain ⟨q, m, d, hx⟩ := h.1; exact ⟨q, m, d, hx.below hb⟩, h.2.trans (Ex.of_below hb)⟩) (no_lean (by kernel_rfl)) ⟨⟨_, _, _, hz⟩, hez⟩ ?_
    clear hK K hV hXV hz hez hr3 hq3
    (try simp only [Act.put, List.getElem_toArray, List.getElem_cons_zero, List.getElem_cons_succ, List.setIfInBounds_toArray, List.set_cons_zero, List.set_cons_succ])
    refine wpDet_done (by kernel_rfl) (fun W6 hW6 => ?_) _
    obtain ⟨hz6, hez6⟩ := hW6
    clear hX2 hS0w
    go_wp2_with fail
    go_ret
    refine ⟨rfl, ?_, (Ex.of_below hb0).trans hez6⟩
    rw [List.nil_append] at hz6
    exact hz6

end Go.Proofs.Ytmnipfdcbmamnaa.M
