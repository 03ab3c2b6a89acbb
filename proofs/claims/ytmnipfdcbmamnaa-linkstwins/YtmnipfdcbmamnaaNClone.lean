/-
  Own text: the contract of links' Clone.
-/
import Derived.Test.YtmnipfdcbmamnaaNBus3
namespace Go.Proofs.Ytmnipfdcbmamnaa.M
open Go.ChangeShapes Go.WideShapes Go.ChangeAt Go.RowKit Go.ChangeMaps Go.MapKept Go.Maps

variable {Z : Nat → Prop}

theorem lenMap (w : World) (b : Nat) (es : Array MapEntry) (clock : Nat) (ty : TypeId) (h : w.heap[b]? = some (.map es clock)) : (Builtin.len_ #[66] ty #[.map (some b)]).run Try.prog w = .ok (goInt es.size) w := by
  simp [Builtin.len_, run_underlying mapT, MapKept.run_getObj_map h]

theorem makeMap_hint (w : World) (n : Nat) : (Instr.makeMap 66 (some (goInt n))).run Try.prog w = .ok (.map (some w.heap.size)) (w.alloc (.map #[] 0)) := by
  simp [Instr.makeMap, run_underlying mapT, goInt, asInt, asIntOf]

theorem World.ownsRow.base {w : World} {B B' : Nat} {e : TypeId} {sz : Nat} {v : Value} {n : Nat} {xs : List Value} (h : w.ownsRow B e sz v n xs) (hB : B' ≤ B) : w.ownsRow B' e sz v n xs := by
  refine ⟨h.1, ?_⟩
  rcases h.2 with h2 | ⟨g', cap, cur, hv, hg, r⟩
  · exact Or.inl h2
  · exact Or.inr ⟨g', cap, cur, hv, Nat.le_trans hB hg, r⟩

set_option maxRecDepth 20000 in
set_option maxHeartbeats 2000000 in
theorem strClone (w : World) (B r ln cap : Nat) (l : List ByteArray) (ho : w.ownsRow B 9 1 (.slice (some ⟨r, 0, none⟩) ln cap) ln (l.map .string)) (hl : l.length = ln) (h8 : ln ≤ 1000) :
    Calls Try.prog 45 #[.slice (some ⟨r, 0, none⟩) ln cap] w fun e w' => ∃ v, e = .returned v ∧ ∃ r' cap', v = .slice (some ⟨r', 0, none⟩) ln cap' ∧ w'.ownsRow w.heap.size 9 1 (.slice (some ⟨r', 0, none⟩) ln cap') ln (l.map .string) ∧ Below w.heap.size w w' := by
  have q22 : ∀ (w : World) (a : Option Addr) (n c n' c' : Nat), (binOp .eql 75 (.slice a n c) (.slice none n' c')).run Try.prog w = .ok (.bool a.isNone) w := fun w a n c n' c' => Lib.run_eql_slice_nil w _ _ a n c n' c' Try.underlying75
  obtain ⟨i0, hi0, hz0, hz1, hz2⟩ := info_parts infoS
  have hba := (Below.refl w.heap.size w).alloc (Nat.le_refl _) (.cells #[] 9)
  have ho0 : (w.alloc (.cells #[] 9)).ownsRow w.heap.size 9 1 (.slice (some ⟨w.heap.size, 0, none⟩) 0 0) 0 [] := World.ownsRow_made w #[] 0 (Nat.le_refl _) (Nat.zero_le _) rfl
  have hcl := World.ownsRow.cells ho rfl
  have hnews : ∀ j u, (l.map Value.string)[j]? = some u → (w.alloc (.cells #[] 9)).cell? ((⟨r, 0, none⟩ : Addr).add j) = some u := fun j u hj => by
    have h1 := hcl j u hj
    rw [← h1]
    exact (below_alloc w (.cells #[] 9)).cell (World.block_lt_of_cell? _ _ h1)
  have h1 : ∀ u ∈ l.map Value.string, u.oneCell' = true := fun u hu => by obtain ⟨s, _, rfl⟩ := List.mem_map.1 hu; rfl
  clear hcl ho
  go_enter Try.func45, Try.ntmps45
  go_wp2_with (refine wpList_append_own _ rfl _ _ 75 rfl w.heap.size 9 i0 (.string { data := #[] }) 1 16 Try.underlying75 hi0 hz0 hz1 hz2 rfl (by decide) _ 0 [] rfl ho0 ⟨r, 0, none⟩ ln cap (l.map .string) rfl ?n1 hnews h1 ?b1 ?b2 ?b3 ?_)
  case n1 => simp [hl]
  case b1 => unfold maxLen; omega
  case b2 => omega
  case b3 => simp
  intro v' w' hown hg hnl
  have hb2 : Below w.heap.size w w' := hba.grown hg (by simp) (fun k e => by cases e; exact Nat.le_refl _)
  have hv : ∃ r' cap', v' = .slice (some ⟨r', 0, none⟩) ln cap' := by
    rcases hown.2 with ⟨h2, h3⟩ | ⟨g', cap', cur, h2, _⟩
    · exact (hnl h2).elim
    · exact ⟨g', cap', h2⟩
  obtain ⟨r', cap', hv⟩ := hv
  rw [hv] at hown ⊢
  clear hg hnews h1 ho0 hba hnl
  go_wp2_with fail
  go_ret
  exact ⟨_, rfl, r', cap', rfl, hown, hb2⟩

/-- A link of a Net that has none there is laid. -/
theorem NB.put {w : World} {B g b n side : Nat} {lost : Int} {N : Int → Int → List ByteArray} {R : Int → Int → Value} {B3 r ln cap : Nat} {x y : Int} {l : List ByteArray} {o2 : Obj} (h : NB (fun _ => False) w B g b n side lost N R)
    (ho : w.ownsRow B3 9 1 (.slice (some ⟨r, 0, none⟩) ln cap) ln (l.map .string)) (hr : B3 ≤ r) (hfr : g < B3 ∧ b < B3 ∧ B ≤ B3 ∧ ∀ a c, N a c ≠ [] → ∀ k, (R a c).ownBlock = some k → k < B3) (hl : l.length = ln) (hne : l ≠ [])
    (hfin : ∀ w3 f', w3.heap[b]? = some o2 → f' (lkV x y) = some (.slice (some ⟨r, 0, none⟩) ln cap) → (∀ z, z ≠ lkV x y → f' z = fL (fun a c => nv (N a c) (R a c)) z) → MapIs Try.prog 33 w3 b (n + 1) f') :
    NB (fun _ => False) (setBlock w b o2) B g b (n + 1) side lost (upN N x y l) (upR R x y (.slice (some ⟨r, 0, none⟩) ln cap)) := by
  have hE := Ex.setB w b o2
  have u1 : upN N x y l x y = l := if_pos ⟨rfl, rfl⟩
  have u2 : upR R x y (.slice (some ⟨r, 0, none⟩) ln cap) x y = .slice (some ⟨r, 0, none⟩) ln cap := if_pos ⟨rfl, rfl⟩
  have u3 : ∀ a c, ¬ (a = x ∧ c = y) → upN N x y l a c = N a c := fun a c h => if_neg h
  have u4 : ∀ a c, ¬ (a = x ∧ c = y) → upR R x y (.slice (some ⟨r, 0, none⟩) ln cap) a c = R a c := fun a c h => if_neg h
  have hbl := h.map.lt
  refine ⟨h.blk.ex hE (Ne.symm h.ne), hfin _ _ (heap_setBlock w b o2 hbl) ?_ ?_, ?_, ?_, h.ne, ?_, h.lo, (fun _ hz => hz.elim), ⟨id, id⟩, fun _ _ _ _ _ => id⟩
  · rw [fL_key, u1, u2]
    match hq : l, hne with
    | m :: l, _ => rfl
  · intro z hz
    exact fL_ne (fun a c hac => by rw [u3 a c hac, u4 a c hac]) z hz
  · intro a c hn
    by_cases hac : a = x ∧ c = y
    · obtain ⟨rfl, rfl⟩ := hac
      rw [u1, u2, hl]
      exact ownsRow_ex (World.ownsRow.base ho (by omega)) hE (fun e => by have e2 : r = b := Option.some.inj e; omega)
    · rw [u3 a c hac] at hn ⊢
      rw [u4 a c hac]
      exact ownsRow_ex (h.rows a c hn) hE (h.off a c hn).2
  · intro a c a' c' hn hn' he
    by_cases hac : a = x ∧ c = y
    · by_cases hac' : a' = x ∧ c' = y
      · exact ⟨hac.1.trans hac'.1.symm, hac.2.trans hac'.2.symm⟩
      · rw [u3 a' c' hac'] at hn'
        rw [u4 a' c' hac', hac.1, hac.2, u2] at he
        have := hfr.2.2.2 a' c' hn' r he.symm
        omega
    · rw [u3 a c hac] at hn
      by_cases hac' : a' = x ∧ c' = y
      · rw [u4 a c hac, hac'.1, hac'.2, u2] at he
        have := hfr.2.2.2 a c hn r he
        omega
      · rw [u3 a' c' hac'] at hn'
        rw [u4 a c hac, u4 a' c' hac'] at he
        exact h.apart a c a' c' hn hn' he
  · intro a c hn
    by_cases hac : a = x ∧ c = y
    · rw [hac.1, hac.2, u2]
      exact ⟨fun e => by have e2 : r = g := Option.some.inj e; omega, fun e => by have e2 : r = b := Option.some.inj e; omega⟩
    · rw [u3 a c hac] at hn
      rw [u4 a c hac]
      exact h.off a c hn

theorem RangeAll.kept {P : Program} {k : TypeId} {w w' : World} {b r n : Nat} {f : Value → Option Value} {ss : List (Int × Int)} (h : RangeAll P k w b r n f ss) (hb : w'.heap[b]? = w.heap[b]?) (hr : w'.heap[r]? = w.heap[r]?) : RangeAll P k w' b r n f ss ∧ leftN w' b r = leftN w b r := by
  obtain ⟨es, clock, seen, h1, h2, h3⟩ := h
  exact ⟨⟨es, clock, seen, hr.trans h1, hb.trans h2, h3⟩, by unfold leftN; rw [hb, hr]⟩

/-- While a Net is cloned. -/
def CloI (w1 : World) (b n r g2 b2 side : Nat) (lost : Int) (N : Int → Int → List ByteArray) (R : Int → Int → Value) (ss : List (Int × Int)) (wr : World) : Prop :=
  ∃ N' R', NB (fun _ => False) wr w1.heap.size g2 b2 ss.length side lost N' R' ∧ (∀ x y, N' x y = if (x, y) ∈ ss then N x y else []) ∧ RangeAll Try.prog 33 wr b r n (fL fun x y => nv (N x y) (R x y)) ss ∧ Below w1.heap.size w1 wr

theorem fL_none (key : Value) : fL (fun _ _ => nv [] (.slice none 0 0)) key = none := by
  unfold fL
  cases key with
  | agg cs => dsimp only; split <;> rfl
  | _ => rfl

set_option linter.unusedSimpArgs false in
set_option maxRecDepth 20000 in
set_option maxHeartbeats 8000000 in
theorem Clone_any {w : World} {B g b n side : Nat} {lost : Int} {N : Int → Int → List ByteArray} {R : Int → Int → Value} (h : NB Z w B g b n side lost N R) (hf8 : ∀ x y, (N x y).length ≤ 8) (hlk : ∀ x y, N x y ≠ [] → isLk x y = true) :
    Calls Try.prog 22 #[.pointer (some ⟨g, 0, none⟩)] w fun o w' => ∃ v, o = .returned v ∧ ∃ g2 b2 R2, v = .pointer (some ⟨g2, 0, none⟩) ∧ NB (fun _ => False) w' w.heap.size g2 b2 n side lost N R2 ∧ Below w.heap.size w w' := by
  have hm := nmade_yes h
  obtain ⟨q0, q1, q2⟩ := h.blk.three
  have HN : Hid (NB Z w B g b n side lost N R) := h
  have Hf8 : Hid (∀ x y, (N x y).length ≤ 8) := hf8
  have Hlk : Hid (∀ x y, N x y ≠ [] → isLk x y = true) := hlk
  obtain ⟨es, clock, hes, _⟩ := h.map
  clear h hf8 hlk
  go_enter Try.func22, Try.ntmps22
  go_wp2_with fail
  refine hm.mono ?_
  rintro o9 w1 ⟨rfl, hw⟩
  subst hw
  clear hm q0 q1 q2
  go_wp2_with fail
  have hS0 : Bl w1 w1.drew := (Below.refl _ _).drew
  refine wp_region_det [0, 1, 2, 3, 4, 6, 7, 8, 9, 10, 11, 12, 13] (fun W => At 68 W g #[.map (some b), .int .u64 side, .int .i64 lost] ∧ W.heap[b]? = some (.map es clock)) (Bl w1) (by kernel_rfl) hS0 ?_
  refine wpDet_take ?vC1 (Bl.stays w1) (fun W h => ⟨HN.out.blk.below h, (h.block b HN.out.map.lt).trans hes⟩) (i := 0) rfl (by kernel_rfl) (by kernel_rfl) (by kernel_rfl) (by kernel_rfl) (fun _ _ _ h => h) (Gives.value (by rfl) ?yC1) ?rC1
  case yC1 => (intro w' hSw; go_simp; try with_reducible rfl)
  (try simp only [Act.put, List.getElem_toArray, List.getElem_cons_zero, List.getElem_cons_succ, List.setIfInBounds_toArray, List.set_cons_zero, List.set_cons_succ])
  refine wpDet_take ?vC2 (Bl.stays w1) (fun W h => ⟨HN.out.blk.below h, (h.block b HN.out.map.lt).trans hes⟩) (i := 1) rfl (by kernel_rfl) (by kernel_rfl) (by kernel_rfl) (by kernel_rfl) (fun _ _ _ h => h) (Gives.value (by rfl) ?yC2) ?rC2
  case yC2 => (intro w' hSw; go_simp; try with_reducible rfl)
  (try simp only [Act.put, List.getElem_toArray, List.getElem_cons_zero, List.getElem_cons_succ, List.setIfInBounds_toArray, List.set_cons_zero, List.set_cons_succ])
  refine wpDet_take ?vC3 (Bl.stays w1) (fun W h => ⟨HN.out.blk.below h, (h.block b HN.out.map.lt).trans hes⟩) (i := 2) rfl (by kernel_rfl) (by kernel_rfl) (by kernel_rfl) (by kernel_rfl) (fun _ _ _ h => h) (Gives.value (by rfl) ?yC3) ?rC3
  case yC3 => (intro w' hSw; go_simp; try with_reducible rfl)
  (try simp only [Act.put, List.getElem_toArray, List.getElem_cons_zero, List.getElem_cons_succ, List.setIfInBounds_toArray, List.set_cons_zero, List.set_cons_succ])
  refine wpDet_take ?vC4 (Bl.stays w1) (fun W h => ⟨HN.out.blk.below h, (h.block b HN.out.map.lt).trans hes⟩) (i := 3) rfl (by kernel_rfl) (by kernel_rfl) (by kernel_rfl) (by kernel_rfl) (fun _ _ _ h => h) (Gives.value (by rfl) ?yC4) ?rC4
  case yC4 => (intro w' hSw; obtain ⟨z0, z1, z2⟩ := (show At 68 w' g _ from hSw.1).three; go_simp; try with_reducible rfl)
  (try simp only [Act.put, List.getElem_toArray, List.getElem_cons_zero, List.getElem_cons_succ, List.setIfInBounds_toArray, List.set_cons_zero, List.set_cons_succ])
  refine wpDet_take ?vC5 (Bl.stays w1) (fun W h => ⟨HN.out.blk.below h, (h.block b HN.out.map.lt).trans hes⟩) (i := 4) rfl (by kernel_rfl) (by kernel_rfl) (by kernel_rfl) (by kernel_rfl) (fun _ _ _ h => h) (Gives.value (by rfl) ?yC5) ?rC5
  case yC5 => (intro w' hSw; have hz := fun ty => lenMap w' b es clock ty hSw.2; go_simp; try with_reducible rfl)
  (try simp only [Act.put, List.getElem_toArray, List.getElem_cons_zero, List.getElem_cons_succ, List.setIfInBounds_toArray, List.set_cons_zero, List.set_cons_succ])
  refine wpDet_take ?vC6 (Bl.stays w1) (fun W h => ⟨HN.out.blk.below h, (h.block b HN.out.map.lt).trans hes⟩) (i := 6) rfl (by kernel_rfl) (by kernel_rfl) (by kernel_rfl) (by kernel_rfl) (fun _ _ _ h => h) (Gives.value (by rfl) ?yC6) ?rC6
  case yC6 => (intro w' hSw; go_simp; try with_reducible rfl)
  (try simp only [Act.put, List.getElem_toArray, List.getElem_cons_zero, List.getElem_cons_succ, List.setIfInBounds_toArray, List.set_cons_zero, List.set_cons_succ])
  refine wpDet_take ?vC7 (Bl.stays w1) (fun W h => ⟨HN.out.blk.below h, (h.block b HN.out.map.lt).trans hes⟩) (i := 7) rfl (by kernel_rfl) (by kernel_rfl) (by kernel_rfl) (by kernel_rfl) (fun _ _ _ h => h) (Gives.value (by rfl) ?yC7) ?rC7
  case yC7 => (intro w' hSw; go_simp; try with_reducible rfl)
  (try simp only [Act.put, List.getElem_toArray, List.getElem_cons_zero, List.getElem_cons_succ, List.setIfInBounds_toArray, List.set_cons_zero, List.set_cons_succ])
  refine wpDet_take ?vC8 (Bl.stays w1) (fun W h => ⟨HN.out.blk.below h, (h.block b HN.out.map.lt).trans hes⟩) (i := 8) rfl (by kernel_rfl) (by kernel_rfl) (by kernel_rfl) (by kernel_rfl) (fun _ _ _ h => h) (Gives.value (by rfl) ?yC8) ?rC8
  case yC8 => (intro w' hSw; go_simp; try with_reducible rfl)
  (try simp only [Act.put, List.getElem_toArray, List.getElem_cons_zero, List.getElem_cons_succ, List.setIfInBounds_toArray, List.set_cons_zero, List.set_cons_succ])
  refine wpDet_take ?vC9 (Bl.stays w1) (fun W h => ⟨HN.out.blk.below h, (h.block b HN.out.map.lt).trans hes⟩) (i := 9) rfl (by kernel_rfl) (by kernel_rfl) (by kernel_rfl) (by kernel_rfl) (fun _ _ _ h => h) (Gives.value (by rfl) ?yC9) ?rC9
  case yC9 => (intro w' hSw; obtain ⟨z0, z1, z2⟩ := (show At 68 w' g _ from hSw.1).three; go_simp; try with_reducible rfl)
  (try simp only [Act.put, List.getElem_toArray, List.getElem_cons_zero, List.getElem_cons_succ, List.setIfInBounds_toArray, List.set_cons_zero, List.set_cons_succ])
  refine wpDet_take ?vC10 (Bl.stays w1) (fun W h => ⟨HN.out.blk.below h, (h.block b HN.out.map.lt).trans hes⟩) (i := 10) rfl (by kernel_rfl) (by kernel_rfl) (by kernel_rfl) (by kernel_rfl) (fun _ _ _ h => h) (Gives.value (by rfl) ?yC10) ?rC10
  case yC10 => (intro w' hSw; go_simp; try with_reducible rfl)
  (try simp only [Act.put, List.getElem_toArray, List.getElem_cons_zero, List.getElem_cons_succ, List.setIfInBounds_toArray, List.set_cons_zero, List.set_cons_succ])
  refine wpDet_take ?vC11 (Bl.stays w1) (fun W h => ⟨HN.out.blk.below h, (h.block b HN.out.map.lt).trans hes⟩) (i := 11) rfl (by kernel_rfl) (by kernel_rfl) (by kernel_rfl) (by kernel_rfl) (fun _ _ _ h => h) (Gives.value (by rfl) ?yC11) ?rC11
  case yC11 => (intro w' hSw; go_simp; try with_reducible rfl)
  (try simp only [Act.put, List.getElem_toArray, List.getElem_cons_zero, List.getElem_cons_succ, List.setIfInBounds_toArray, List.set_cons_zero, List.set_cons_succ])
  refine wpDet_take ?vC12 (Bl.stays w1) (fun W h => ⟨HN.out.blk.below h, (h.block b HN.out.map.lt).trans hes⟩) (i := 12) rfl (by kernel_rfl) (by kernel_rfl) (by kernel_rfl) (by kernel_rfl) (fun _ _ _ h => h) (Gives.value (by rfl) ?yC12) ?rC12
  case yC12 => (intro w' hSw; go_simp; try with_reducible rfl)
  (try simp only [Act.put, List.getElem_toArray, List.getElem_cons_zero, List.getElem_cons_succ, List.setIfInBounds_toArray, List.set_cons_zero, List.set_cons_succ])
  refine wpDet_take ?vC13 (Bl.stays w1) (fun W h => ⟨HN.out.blk.below h, (h.block b HN.out.map.lt).trans hes⟩) (i := 13) rfl (by kernel_rfl) (by kernel_rfl) (by kernel_rfl) (by kernel_rfl) (fun _ _ _ h => h) (Gives.value (by rfl) ?yC13) ?rC13
  case yC13 => (intro w' hSw; obtain ⟨z0, z1, z2⟩ := (show At 68 w' g _ from hSw.1).three; go_simp; try with_reducible rfl)
  (try simp only [Act.put, List.getElem_toArray, List.getElem_cons_zero, List.getElem_cons_succ, List.setIfInBounds_toArray, List.set_cons_zero, List.set_cons_succ])
  refine wpDet_ready (rs := [5]) (by kernel_rfl) (by simp) (AllDet.cons rfl (fun V hV K hK => ?_) AllDet.nil)
  rw [if_pos (by rfl)]
  have hmk := makeMap_hint V es.size
  refine wp_value (.map (some V.heap.size)) (V.alloc (.map #[] 0)) (by first | (go_simp; done) | (go_simp; rfl)) ?_
  have hba := below_alloc V (.map #[] 0)
  have hm5 : (V.alloc (.map #[] 0)).heap[V.heap.size]? = some (.map #[] 0) := heap_alloc_new V _
  have hb2 : w1.heap.size ≤ V.heap.size := (Bl.out' hV).size
  have hbl5 := Bl.stays w1 V _ hV hba
  generalize V.heap.size = b2 at *
  refine hK.out (fun W => Bl w1 W ∧ W.heap[b2]? = some (.map #[] 0)) _ _ (fun W W' h hb => ⟨Bl.stays w1 W W' h.1 hb, (hb.block b2 (Array.getElem?_eq_some_iff.1 h.2).1).trans h.2⟩) (fun _ W h => ⟨HN.out.blk.below h.1, (Bl.out' h.1).block b HN.out.map.lt |>.trans hes⟩) ⟨hbl5, hm5⟩ ?_
  clear hK K hV hmk hba hm5 hbl5
  (try simp only [Act.put, List.getElem_toArray, List.getElem_cons_zero, List.getElem_cons_succ, List.setIfInBounds_toArray, List.set_cons_zero, List.set_cons_succ])
  refine wpDet_ready (rs := [14]) (by kernel_rfl) (by simp) (AllDet.cons rfl (fun V hV K hK => ?_) AllDet.nil)
  rw [if_pos (by rfl)]
  refine wp_value (.agg #[.map (some b2), .int .u64 side, .int .i64 lost]) V (by first | (go_simp; done) | (go_simp; rfl)) ?_
  refine hK.out (fun W => Bl w1 W ∧ W.heap[b2]? = some (.map #[] 0)) _ _ (fun W W' h hb => ⟨Bl.stays w1 W W' h.1 hb, (hb.block b2 (Array.getElem?_eq_some_iff.1 h.2).1).trans h.2⟩) (fun _ W h => ⟨HN.out.blk.below h.1, (Bl.out' h.1).block b HN.out.map.lt |>.trans hes⟩) hV ?_
  clear hK K hV
  (try simp only [Act.put, List.getElem_toArray, List.getElem_cons_zero, List.getElem_cons_succ, List.setIfInBounds_toArray, List.set_cons_zero, List.set_cons_succ])
  refine wpDet_ready (rs := [15]) (by kernel_rfl) (by simp) (AllDet.cons rfl (fun V hV K hK => ?_) AllDet.nil)
  rw [if_pos (by rfl)]
  refine wp_value (.pointer (some ⟨V.heap.size, 0, none⟩)) (V.alloc (.cells #[.map (some b2), .int .u64 side, .int .i64 lost] 68)) (by first | (go_simp; done) | (go_simp; rfl)) ?_
  have hba := below_alloc V (.cells #[.map (some b2), .int .u64 side, .int .i64 lost] 68)
  have hN5 := At.new 68 V #[.map (some b2), .int .u64 side, .int .i64 lost]
  have hm5 := (hba.block b2 (Array.getElem?_eq_some_iff.1 hV.2).1).trans hV.2
  have hg2 : w1.heap.size ≤ V.heap.size := (Bl.out' hV.1).size
  have hgb : b2 < V.heap.size := (Array.getElem?_eq_some_iff.1 hV.2).1
  have hbl5 := Bl.stays w1 V _ hV.1 hba
  generalize V.heap.size = g2 at *
  refine hK.out (fun W => Bl w1 W ∧ W.heap[b2]? = some (.map #[] 0) ∧ At 68 W g2 #[.map (some b2), .int .u64 side, .int .i64 lost]) _ _ (fun W W' h hb => ⟨Bl.stays w1 W W' h.1 hb, (hb.block b2 (Array.getElem?_eq_some_iff.1 h.2.1).1).trans h.2.1, h.2.2.below hb⟩) (fun _ W h => ⟨HN.out.blk.below h.1, (Bl.out' h.1).block b HN.out.map.lt |>.trans hes⟩) ⟨hbl5, hm5, hN5⟩ ?_
  clear hK K hV hba hm5 hbl5 hN5
  (try simp only [Act.put, List.getElem_toArray, List.getElem_cons_zero, List.getElem_cons_succ, List.setIfInBounds_toArray, List.set_cons_zero, List.set_cons_succ])
  refine wpDet_ready (rs := [16]) (by kernel_rfl) (by simp) (AllDet.cons rfl (fun V hV K hK => ?_) AllDet.nil)
  rw [if_pos (by rfl)]
  refine wp_value (.pointer (some ⟨g2, 0, none⟩)) V (by first | (go_simp; done) | (go_simp; rfl)) ?_
  refine hK.out (fun W => Bl w1 W ∧ W.heap[b2]? = some (.map #[] 0) ∧ At 68 W g2 #[.map (some b2), .int .u64 side, .int .i64 lost]) _ _ (fun W W' h hb => ⟨Bl.stays w1 W W' h.1 hb, (hb.block b2 (Array.getElem?_eq_some_iff.1 h.2.1).1).trans h.2.1, h.2.2.below hb⟩) (fun _ W h => ⟨HN.out.blk.below h.1, (Bl.out' h.1).block b HN.out.map.lt |>.trans hes⟩) hV ?_
  clear hK K hV
  (try simp only [Act.put, List.getElem_toArray, List.getElem_cons_zero, List.getElem_cons_succ, List.setIfInBounds_toArray, List.set_cons_zero, List.set_cons_succ])
  refine wpDet_done (by kernel_rfl) (fun w2 hW2 => ?_) _

  obtain ⟨hbl, hm2, hN2⟩ := hW2
  have hb12 := Bl.out' hbl
  have hNo := HN.out.below hb12
  obtain ⟨q0, q1, q2⟩ := hNo.blk.three
  obtain ⟨o, hro, hrg⟩ := hNo.map.rangeAll mapT
  have hba := below_alloc w2 o
  have hnb0 : NB (fun _ => False) w2 w1.heap.size g2 b2 0 side lost (fun _ _ => []) (fun _ _ => .slice none 0 0) := ⟨hN2, ⟨#[], 0, hm2, ⟨stamped_empty 0, Nat.le_refl _⟩, ⟨(fun _ h => by cases h), List.Pairwise.nil⟩, fun key l hl => by rw [show fL (fun _ _ => nv [] (.slice none 0 0)) key = none from fL_none key]; exact fun _ h => by cases h⟩, fun _ _ h => absurd rfl h, fun _ _ _ _ h => absurd rfl h, Nat.ne_of_lt hgb, fun _ _ h => absurd rfl h, ⟨hg2, hb2⟩, (fun _ hz => hz.elim), ⟨id, id⟩, fun _ _ h => absurd rfl h⟩
  have hI0 : CloI w1 b n w2.heap.size g2 b2 side lost N R [] (w2.alloc o) := ⟨_, _, hnb0.below hba, fun x y => by simp, hrg, hb12.trans (hba.mono hb12.size)⟩
  have hrw : w1.heap.size ≤ w2.heap.size ∧ g2 < w2.heap.size ∧ b2 < w2.heap.size := ⟨hb12.size, hN2.lt, (Array.getElem?_eq_some_iff.1 hm2).1⟩
  clear hbl hm2 hN2 hnb0 hrg hes hNo
  go_wp2_with fail
  clear hro hba hb12 q0 q1 q2
  generalize (w2.alloc o) = w20 at *
  generalize w2.heap.size = r at *
  go_loopw [30] (fun _ wr => ∃ ss, CloI w1 b n r g2 b2 side lost N R ss wr) (fun _ wr => leftN wr b r)
  case atStart => exact ⟨[], hI0⟩
  case round =>
    clear hI0
    obtain ⟨ss, N', R', hnb, hN', hrg, hbw⟩ := hrel
    have hnl := hrg
    rcases hrg.next fL_enc 0 with ⟨hrun, hend⟩ | ⟨s, val, w1', hfv, hrun, hrg1, hlv, hlen, hg1, hent⟩
    · have hNN : N' = N := by
        funext x y
        rw [hN' x y]
        by_cases hx : (x, y) ∈ ss
        · rw [if_pos hx]
        · rw [if_neg hx]
          by_cases e : N x y = []
          · exact e.symm
          · obtain ⟨⟨h1, _⟩, h2, _⟩ := lk_wf (Hlk.out x y e)
            obtain ⟨v, hv⟩ := (nv_some (v := R x y)).2 e
            exact absurd (hend (x, y) _ v (key_ok h1 h2) hv) hx
      have hss : ss.length ≤ n := by obtain ⟨_, _, _, _, _, ⟨_, h6⟩, _, _, _, _, _, h10⟩ := hrg; omega
      rw [hNN] at hnb
      have hnbz := hnb.up hss
      clear hnl hrg hend hN'
      go_wp2_with fail
      go_ret
      exact ⟨_, rfl, g2, b2, R', rfl, hnbz, hbw⟩
    · obtain ⟨s1, s2⟩ := s
      have hfv' : nv (N s1 s2) (R s1 s2) = some val := hfv
      have hnn : N s1 s2 ≠ [] := nv_some.1 ⟨val, hfv'⟩
      have hval : val = R s1 s2 := by
        match hq : N s1 s2, hnn with
        | m :: l, _ => rw [hq] at hfv'; exact (Option.some.inj hfv').symm
      have hkey := key_ok (lk_wf (Hlk.out s1 s2 hnn)).1.1 (lk_wf (Hlk.out s1 s2 hnn)).2.1
      have hrow := HN.out.rows s1 s2 hnn
      have hl8 := Hf8.out s1 s2
      have hRx : ∃ rr cap, R s1 s2 = .slice (some ⟨rr, 0, none⟩) (N s1 s2).length cap := by
        rcases hrow.2 with ⟨_, h0⟩ | ⟨rr, cap, cur, hRv, _⟩
        · exact absurd (List.eq_nil_of_length_eq_zero h0) hnn
        · exact ⟨rr, cap, hRv⟩
      obtain ⟨rr, cap, hRv⟩ := hRx
      rw [hRv] at hrow hval
      subst hval
      have hex : Ex r wr w1' := ⟨hg1.os, hg1.tape, hg1.output, hg1.size, fun k hk hne => hg1.block k hk (fun e => hne (Option.some.inj e))⟩
      have hrl := hrg.lt
      have hnb1 : NB (fun _ => False) w1' w1.heap.size g2 b2 ss.length side lost N' R' := hnb.ex hex (by omega) (by omega) (fun a c hn e => by
        obtain ⟨_, _, _, hit, _⟩ := hrg
        rcases (hnb.rows a c hn).2 with ⟨h2, _⟩ | ⟨g', cap', cur, h2, _, h3, _⟩
        · rw [h2] at e; cases e
        · rw [h2] at e
          have e2 : g' = r := Option.some.inj e
          rw [e2, hit] at h3
          cases h3)
      have hbw1 : Below w1.heap.size w1 w1' := hbw.trans (hex.below hrw.1 hrl.2.1)
      have hba3 := below_alloc w1' (.cells #[.int .i64 s1, .int .i64 s2] 33)
      have hX := At.new 33 w1' #[.int .i64 s1, .int .i64 s2]
      have hnb3 := hnb1.below hba3
      have hbw3 := hbw1.trans (hba3.mono hbw1.size)
      have hrg3 := hrg1.kept (hba3.block b hrg1.lt.1) (hba3.block r hrg1.lt.2.1)
      obtain ⟨LN, HLN⟩ : ∃ z, Hid (leftN wr b r = z) := ⟨_, rfl⟩
      have hlv3 : leftN (w1'.alloc (.cells #[.int .i64 s1, .int .i64 s2] 33)) b r < LN := by rw [hrg3.2, ← HLN.out]; exact hlv
      have Hrg3 : Hid (RangeAll Try.prog 33 (w1'.alloc (.cells #[.int .i64 s1, .int .i64 s2] 33)) b r n (fL fun x y => nv (N x y) (R x y)) (ss ++ [(s1, s2)])) := hrg3.1
      obtain ⟨ln, Hln⟩ : ∃ z, Hid ((N s1 s2).length = z) := ⟨_, rfl⟩
      obtain ⟨msgs, Hms⟩ : ∃ z, Hid (N s1 s2 = z) := ⟨_, rfl⟩
      have hln : msgs.length = ln := by rw [← Hms.out]; exact Hln.out
      rw [Hln.out] at hrow hl8 hrun hent
      rw [Hms.out] at hnn hrow
      have HN' : Hid (∀ x y, N' x y = if (x, y) ∈ ss then N x y else []) := hN'
      have HfvN : Hid (N s1 s2 = msgs) := Hms.out
      have hrun2 := hrun
      have hent2 := hent
      unfold encL lkV at hrun2 hent2
      dsimp only at hrun2 hent2
      obtain ⟨a0, a1⟩ := hX.two
      clear hfv hfv' hRv Hms Hln hnl hrg hrg1 hlv hg1 hex hnb hnb1 hbw hbw1 hba3 hrg3 hN' hrun hent hlen
      go_wp2_with fail
      clear hrun2 hent2 a0 a1
      generalize (w1'.alloc (.cells #[.int .i64 s1, .int .i64 s2] 33)) = w3 at *
      generalize w1'.heap.size = gx at *
      have hnb := hnb3
      have hb2w : g2 < w3.heap.size ∧ b2 < w3.heap.size ∧ w1.heap.size ≤ w3.heap.size ∧ ∀ a c, N' a c ≠ [] → ∀ k, (R' a c).ownBlock = some k → k < w3.heap.size := ⟨hnb.blk.lt, hnb.map.lt, hbw3.size, fun a c hn k hk => (World.ownsRow.lt (hnb.rows a c hn) k hk).2⟩
      have cCl : ∀ V, Below w3.heap.size w3 V → Calls Try.prog 45 #[.slice (some ⟨rr, 0, none⟩) ln cap] V fun e w' => ∃ v, e = .returned v ∧ ∃ r' cap', v = .slice (some ⟨r', 0, none⟩) ln cap' ∧ w'.ownsRow V.heap.size 9 1 (.slice (some ⟨r', 0, none⟩) ln cap') ln (msgs.map .string) ∧ Below V.heap.size V w' := fun V hV => strClone V B rr ln cap msgs (ownsRow_below hrow (hbw3.trans (hV.mono hbw3.size))) hln (by omega)
      obtain ⟨m, Hm⟩ : ∃ z, Hid (ss.length = z) := ⟨_, rfl⟩
      rw [Hm.out] at hnb
      clear hnb3
      have hS7 : Bl w3 w3.drew := (Below.refl _ _).drew
      refine wp_region_det [0, 1, 2, 3, 4, 5] (fun W => At 68 W g2 #[.map (some b2), .int .u64 side, .int .i64 lost] ∧ W.rangeAt gx 0 [.int .i64 s1, .int .i64 s2]) (Bl w3) (by kernel_rfl) hS7 ?_
      refine wpDet_take ?vC14 (Bl.stays w3) (fun W h => ⟨hnb.blk.below h, hX.rangeB h⟩) (i := 0) rfl (by kernel_rfl) (by kernel_rfl) (by kernel_rfl) (by kernel_rfl) (fun _ _ _ h => h) (Gives.value (by rfl) ?yC14) ?rC14
      case yC14 => (intro w' hSw; go_simp; try with_reducible rfl)
      (try simp only [Act.put, List.getElem_toArray, List.getElem_cons_zero, List.getElem_cons_succ, List.setIfInBounds_toArray, List.set_cons_zero, List.set_cons_succ])
      refine wpDet_take ?vC15 (Bl.stays w3) (fun W h => ⟨hnb.blk.below h, hX.rangeB h⟩) (i := 1) rfl (by kernel_rfl) (by kernel_rfl) (by kernel_rfl) (by kernel_rfl) (fun _ _ _ h => h) (Gives.value (by rfl) ?yC15) ?rC15
      case yC15 => (intro w' hSw; go_simp; try with_reducible rfl)
      (try simp only [Act.put, List.getElem_toArray, List.getElem_cons_zero, List.getElem_cons_succ, List.setIfInBounds_toArray, List.set_cons_zero, List.set_cons_succ])
      refine wpDet_take ?vC16 (Bl.stays w3) (fun W h => ⟨hnb.blk.below h, hX.rangeB h⟩) (i := 2) rfl (by kernel_rfl) (by kernel_rfl) (by kernel_rfl) (by kernel_rfl) (fun _ _ _ h => h) (Gives.value (by rfl) ?yC16) ?rC16
      case yC16 => (intro w' hSw; go_simp; try with_reducible rfl)
      (try simp only [Act.put, List.getElem_toArray, List.getElem_cons_zero, List.getElem_cons_succ, List.setIfInBounds_toArray, List.set_cons_zero, List.set_cons_succ])
      refine wpDet_take ?vC17 (Bl.stays w3) (fun W h => ⟨hnb.blk.below h, hX.rangeB h⟩) (i := 3) rfl (by kernel_rfl) (by kernel_rfl) (by kernel_rfl) (by kernel_rfl) (fun _ _ _ h => h) (Gives.value (by rfl) ?yC17) ?rC17
      case yC17 => (intro w' hSw; have hz := (show At 68 w' g2 _ from hSw.1).cell 0; go_simp; try with_reducible rfl)
      (try simp only [Act.put, List.getElem_toArray, List.getElem_cons_zero, List.getElem_cons_succ, List.setIfInBounds_toArray, List.set_cons_zero, List.set_cons_succ])
      refine wpDet_take _ (Bl.stays w3) (fun W h => ⟨hnb.blk.below h, hX.rangeB h⟩) (i := 4) rfl (by kernel_rfl) (by kernel_rfl) (by kernel_rfl) (by kernel_rfl) (fun _ _ _ h => h) (Gives.of_yields (yieldsIf_load_mid (by rfl) _ _ rfl _ _ rfl _ _ (fun W h => h.2) Try.underlying33 rfl sizeLk)) ?_
      (try simp only [Act.put, List.getElem_toArray, List.getElem_cons_zero, List.getElem_cons_succ, List.setIfInBounds_toArray, List.set_cons_zero, List.set_cons_succ])
      refine wpDet_take ?vC18 (Bl.stays w3) (fun W h => ⟨hnb.blk.below h, hX.rangeB h⟩) (i := 5) rfl (by kernel_rfl) (by kernel_rfl) (by kernel_rfl) (by kernel_rfl) (fun _ _ _ h => h) (Gives.value (by rfl) ?yC18) ?rC18
      case yC18 => (intro w' hSw; go_simp; try with_reducible rfl)
      (try simp only [Act.put, List.getElem_toArray, List.getElem_cons_zero, List.getElem_cons_succ, List.setIfInBounds_toArray, List.set_cons_zero, List.set_cons_succ])
      refine wpDet_ready (rs := [6]) (by kernel_rfl) (by simp) (AllDet.cons rfl (fun V hV K hK => ?_) AllDet.nil)
      rw [if_pos (by rfl)]
      refine wp_enterN 45 #[.slice (some ⟨rr, 0, none⟩) ln cap] (by first | (go_simp; done) | (go_simp; rfl)) _ (cCl V (Bl.out' hV)) ?_
      rintro v V7 ⟨r7, cap7, rfl, ho7, hb7⟩
      have hVs := (Bl.out' hV).size
      have hr7 : w3.heap.size ≤ r7 := Nat.le_trans hVs (World.ownsRow.lt ho7 r7 rfl).1
      have ho7' := World.ownsRow.base ho7 hVs
      refine hK.out (fun W => Bl w3 W ∧ W.ownsRow w3.heap.size 9 1 (.slice (some ⟨r7, 0, none⟩) ln cap7) ln (msgs.map .string)) _ _ (fun W W' h hb => ⟨Bl.stays w3 W W' h.1 hb, ownsRow_below h.2 hb⟩) (fun _ W h => ⟨hnb.blk.below h.1, hX.rangeB h.1⟩) ⟨Bl.stays w3 V _ hV hb7, ho7'⟩ ?_
      clear hK K hV ho7 ho7' hb7
      (try simp only [Act.put, List.getElem_toArray, List.getElem_cons_zero, List.getElem_cons_succ, List.setIfInBounds_toArray, List.set_cons_zero, List.set_cons_succ])
      refine wpDet_ready (rs := [7]) (by kernel_rfl) (by simp) (AllDet.cons rfl (fun V hV K hK => ?_) AllDet.nil)
      rw [if_pos (by rfl)]
      have hVb := Bl.out' hV.1
      have hnbV := hnb.below hVb
      obtain ⟨o2, hrun, hfin⟩ := hnbV.map.put (Keyed.of_law linkLaw) mapT hkey (.slice (some ⟨r7, 0, none⟩) ln cap7)
      refine wp_put 66 (.tmp 38) (.tmp 39) (.tmp 41) rfl (.map (some b2)) (lkV s1 s2) (.slice (some ⟨r7, 0, none⟩) ln cap7) rfl rfl rfl (setBlock V b2 o2) hrun ?_
      have hput := NB.put hnbV hV.2 hr7 hb2w hln hnn hfin
      have hexV := (Ex.of_below (g := b2) hVb).trans (Ex.setB V b2 o2)
      refine hK.out (fun W => NB (fun _ => False) W w1.heap.size g2 b2 (m + 1) side lost (upN N' s1 s2 msgs) (upR R' s1 s2 (.slice (some ⟨r7, 0, none⟩) ln cap7)) ∧ Ex b2 w3 W) _ _ (fun W W' h hb => ⟨h.1.below hb, h.2.trans (Ex.of_below hb)⟩) (no_lean (by kernel_rfl)) ⟨hput, hexV⟩ ?_
      clear hK K hV hVb hnbV hrun hfin hput hexV
      (try simp only [Act.put, List.getElem_toArray, List.getElem_cons_zero, List.getElem_cons_succ, List.setIfInBounds_toArray, List.set_cons_zero, List.set_cons_succ])
      refine wpDet_done (by kernel_rfl) (fun W1 hW1 => ?_) _
      obtain ⟨hnb1, hex1⟩ := hW1

      have hrgF := Hrg3.out.kept (hex1.block b Hrg3.out.lt.1 (by have := HN.out.map.lt; omega)) (hex1.block r Hrg3.out.lt.2.1 (by omega))
      have hbwF := hbw3.trans (hex1.below hb2 hb2w.2.1)
      have hNF : ∀ x y, upN N' s1 s2 msgs x y = if (x, y) ∈ ss ++ [(s1, s2)] then N x y else [] := fun x y => by
        unfold upN
        by_cases hxy : x = s1 ∧ y = s2
        · rw [if_pos hxy, if_pos (by rw [hxy.1, hxy.2]; simp), hxy.1, hxy.2, HfvN.out]
        · rw [if_neg hxy, HN'.out x y]
          by_cases hm3 : (x, y) ∈ ss
          · rw [if_pos hm3, if_pos (List.mem_append_left _ hm3)]
          · rw [if_neg hm3, if_neg (fun h5 => by
              rcases List.mem_append.1 h5 with h5 | h5
              · exact hm3 h5
              · have := List.mem_singleton.1 h5
                injection this with e1 e2
                exact hxy ⟨e1, e2⟩)]
      go_wp2_with fail
      go_roundw
      case rel => exact ⟨ss ++ [(s1, s2)], _, _, by rw [List.length_append, List.length_singleton, Hm.out]; exact hnb1, hNF, hrgF.1, hbwF⟩
      case measure => rw [hrgF.2, HLN.out]; exact hlv3

end Go.Proofs.Ytmnipfdcbmamnaa.M
