/-
  Own text: what was seen as bytes: the contract of Make, where what was seen may be.
-/
import Derived.Test.YtphdbpljgilcgaaDoorSPlain
import Derived.Test.YtphdbpljgilcgaaDoorDet2
namespace Go.Proofs.YtphdbpljgilcgaaDoor.M
open Go.ChangeShapes Go.WideShapes Go.ChangeAt Go.RowKit Go.Proofs
set_option linter.unusedSimpArgs false

theorem wp_value {P : Program} {op : Oper} {a : Act} {w : World} {K : Act → World → Prop} {Q : Exit → Act → World → Prop} (v : Value) (w' : World) (he : (execOp a.eval op).run P w = .ok (.value v) w') (h : K (a.put op.dst v) w') : op.wp P a w K Q := by
  unfold Oper.wp
  rw [he]
  exact h

theorem wp_enterX {P : Program} {op : Oper} {a : Act} {w : World} {K : Act → World → Prop} {Q : Exit → Act → World → Prop} (f : FuncId) (args : Array Value) (he : (execOp a.eval op).run P w = .ok (.enter f args) w) (R : Value → World → Prop) (hc : Calls P f args w fun e w' => ∃ v, e = .returned v ∧ R v w') (h : ∀ v w', R v w' → K (a.put op.dst v) w') : op.wp P a w K Q := by
  unfold Oper.wp
  rw [he]
  refine Calls.mono hc ?_
  rintro e w' ⟨v, rfl, hR⟩
  exact h v w' hR

/-- All that stood is as it was. -/
def Bl (w W : World) : Prop := Below w.heap.size w W

theorem Bl.stays (w : World) : Stays (Bl w) := fun _ _ h hb => h.trans (hb.mono h.size)

theorem Bl.out {w W : World} (h : Bl w W) : Below w.heap.size w W := h

def BX (w : World) (x : Nat) (a b : Nat) (W : World) : Prop := Bl w W ∧ W.heap[x]? = some (.cells #[.int .u64 a, .int .u64 b] 43)

theorem BX.stays (w : World) (x a b : Nat) : Stays (BX w x a b) := fun W W' h hb => ⟨Bl.stays w W W' h.1 hb, (hb.block x (Array.getElem?_eq_some_iff.1 h.2).1).trans h.2⟩

def BO (w : World) (p : Option Addr) (n c : Nat) (xs : List Int) (W : World) : Prop := Bl w W ∧ Ow .u8 5 W w.heap.size p n c xs

theorem BO.stays (w : World) (p : Option Addr) (n c : Nat) (xs : List Int) : Stays (BO w p n c xs) := fun W W' h hb => ⟨Bl.stays w W W' h.1 hb, h.2.below hb⟩

/-- One's bytes. -/
def snB (s : Sn) : List Int := putL s.n ++ putL s.v.toNat

/-- The bytes of the first ones. -/
def bodyF (L : List Sn) (k : Nat) : List Int := putL L.length ++ ((L.take k).map snB).flatten

theorem bodyF_zero (L : List Sn) : bodyF L 0 = putL L.length := by simp [bodyF]

theorem bodyF_snoc {L : List Sn} {k : Nat} (h : k < L.length) : bodyF L (k + 1) = bodyF L k ++ (putL (L.getD k .z0).n ++ putL (L.getD k .z0).v.toNat) := by
  unfold bodyF
  rw [List.take_succ_eq_append_getElem h, getD_eq h, List.map_append, List.flatten_append, List.append_assoc]
  simp [snB]

theorem bodyF_by (L : List Sn) (k : Nat) : By (bodyF L k) := by
  refine By.app (putL_by _) ?_
  intro x hx
  obtain ⟨l, hl, hx⟩ := List.mem_flatten.1 hx
  obtain ⟨s, _, rfl⟩ := List.mem_map.1 hl
  exact By.app (putL_by _) (putL_by _) x hx

/-- What was seen as bytes, without the digest. -/
def bodyL (L : List Sn) : List Int := bodyF L L.length

/-- The pass. -/
def passL (K : List Int) (L : List Sn) : List Int := if L.length = 0 then [] else bodyL L ++ eigL (shN (digest K (bodyL L)) 8)

theorem putAll_two (a b : Nat) : putAll [(a : Int), (b : Int)] = putL a ++ putL b := by simp [putAll]

theorem rd64_two {w : World} {x a b : Nat} (h : w.heap[x]? = some (.cells #[.int .u64 a, .int .u64 b] 43)) : Rd .u64 w (some ⟨x, 0, none⟩) 2 2 [(a : Int), (b : Int)] := by
  refine ⟨rfl, Nat.le_refl _, (fun h => by cases h), fun _ => ⟨x, 0, rfl, fun i hi => ?_⟩⟩
  rw [Nat.zero_add, cell_of_row w x i _ _ _ h]
  match i, hi with
  | 0, _ => rfl
  | 1, _ => rfl

theorem put2_any (p : Option Addr) (n c : Nat) (xs : List Int) (x a b : Nat) (w : World) (hr : Rd .u8 w p n c xs) (hx : w.heap[x]? = some (.cells #[.int .u64 a, .int .u64 b] 43)) (ha : a < 18446744073709551616) (hb : b < 18446744073709551616) (hn : n ≤ 1000000) :
    Calls Tryd.prog 17 #[.slice p n c, .slice (some ⟨x, 0, none⟩) 2 2] w fun e w' => ∃ v, e = .returned v ∧ (∃ p2 c2 n2, v = .slice p2 n2 c2 ∧ n2 ≤ n + 20 ∧ Ow .u8 5 w' w.heap.size p2 n2 c2 (xs ++ (putL a ++ putL b))) ∧ Below w.heap.size w w' := by
  have hW : Wd [(a : Int), (b : Int)] := fun y hy => by
    simp only [List.mem_cons, List.not_mem_nil, or_false] at hy
    rcases hy with rfl | rfl <;> omega
  have hl := putAll_len hW
  have h := put_any p n c xs _ 2 2 _ w hr (rd64_two hx) hW (by omega) (by decide)
  rw [putAll_two] at h hl
  refine h.mono fun e w' ⟨p', c', h1, h2, h3⟩ => ⟨_, h1, ⟨p', c', _, rfl, ?_, h2⟩, h3⟩
  simp at hl ⊢
  omega

set_option maxRecDepth 20000 in
set_option maxHeartbeats 4000000 in
theorem make_any (kp : Option Addr) (kc : Nat) (K : List Int) (p : Option Addr) (n c : Nat) (L : List Sn) (w : World) (hk : Rd .u8 w kp 16 kc K) (bk : By K) (hr : RdM w p n c L) (hf : Fit L) (hz : rightL L = 0) (hT : Tabs w) :
    Calls Tryd.prog 8 #[.slice kp 16 kc, .slice p n c] w fun e w' => ∃ p' c', e = .returned (.tuple #[.slice p' (passL K L).length c', .int .i64 0]) ∧ Rd .u8 w' p' (passL K L).length c' (passL K L) ∧ Below w.heap.size w w' := by
  have hl := hr.len
  have hM := (right_iff L).1 hz
  have h6 := hM.1
  have hMv : ∀ k, k < n → 1 ≤ (L.getD k .z0).v ∧ (L.getD k .z0).v ≤ 1099511627776 := fun k hk => by
    rw [getD_eq (by omega)]
    have h1 := hM.2.1.2 L[k] (List.getElem_mem (by omega))
    have h2 := (hM.2.2 L[k] (List.getElem_mem (by omega))).2
    omega
  have cR := right_any p n c L w hr hf (by omega) hT
  rw [hz] at cR
  have hSh := fun (q : Option Addr) (m d : Nat) (xs : List Int) (W : World) (h1 : Rd .u8 W kp 16 kc K) (h2 : Rd .u8 W q m d xs) (h3 : By xs) => short_any kp kc K q m d xs W h1 bk h2 h3
  have HB0 : Hid (bodyF L 0 = putL n) := by unfold Hid; rw [bodyF_zero, hl]
  have hw64 : IntKind.u64.wrap (n : Int) = (n : Int) := by rw [IntKind.wrap_u64]; omega
  clear hz hM
  go_enter Tryd.func8, Tryd.ntmps8
  go_wp2_with fail
  refine cR.mono ?_
  rintro e w1 ⟨rfl, hb1⟩
  have hr1 := hr.below hb1
  have hk1 := hk.below hb1
  clear cR hr hk
  have hba1 := below_alloc w1 (.cells #[.int .u64 (n : Int)] 43)
  have hr2 := hr1.below hba1
  have hk2 := hk1.below hba1
  have cP1 := put_any none 0 0 [] (some ⟨w1.heap.size, 0, none⟩) 1 1 [(n : Int)] (w1.alloc (.cells #[.int .u64 (n : Int)] 43)) (Rd.empty _ _ _ _ (fun _ => rfl)) (Rd.one .u64 w1 43 n) (fun y hy => by rw [List.mem_singleton.1 hy]; omega) (by decide) (by decide)
  rw [putAll_one, Int.toNat_natCast, List.nil_append, Nat.zero_add] at cP1
  have hpl := putL_len (m := n) (by omega)
  have hbb2 := hb1.trans (hba1.mono hb1.size)
  clear hr1 hk1 hba1 hb1
  go_wp2_with fail
  refine cP1.mono ?_
  rintro e w3 ⟨p3, c3, rfl, ho3, hb3⟩
  have hr3 := hr2.below hb3
  have hk3 := hk2.below hb3
  have hbb3 := hbb2.trans (hb3.mono hbb2.size)
  have ho3' := ho3.lower hbb2.size
  clear cP1 hr2 hk2 hbb2 hb3 ho3
  generalize (putL n).length = pn at *
  rw [← HB0.out] at ho3'
  go_wp2_with fail
  go_loopw [7, 25] (fun v i wr => ∃ (k : Nat) (p' : Option Addr) (c' n' : Nat), k ≤ n ∧ i = .int .i64 k ∧ v = .slice p' n' c' ∧ n' ≤ 10 + 20 * k ∧ Ow .u8 5 wr w.heap.size p' n' c' (bodyF L k) ∧ Below w3.heap.size w3 wr) (fun _ i _ => n - (intOf i).toNat)
  case atStart => exact ⟨0, p3, c3, pn, Nat.zero_le _, rfl, rfl, by omega, ho3', Below.refl _ _⟩
  case round =>
    clear ho3'
    obtain ⟨k, p', c', n', hkn, rfl, rfl, hn', ho, hbw⟩ := hrel
    have hbb := hbb3.trans (hbw.mono hbb3.size)
    by_cases h : k < n
    · obtain ⟨b, o, rfl, hc⟩ := (hr3.below hbw).cells (by omega)
      obtain ⟨x0, x1, x2, x3, x4, x5, x6, x7, x8⟩ := hc k h
      have hfk := hf.get k
      have hvk := hMv k h
      have hk1 : (k : Int) < (n : Int) := by omega
      have HS : Hid (bodyF L (k + 1) = bodyF L k ++ (putL (L.getD k .z0).n ++ putL (L.getD k .z0).v.toNat)) := bodyF_snoc (by omega)
      clear hc hr3 hMv hSh hk3 HB0
      generalize (L.getD k .z0).n = kn at *
      obtain ⟨kv, hkv⟩ : ∃ kv : Nat, (L.getD k .z0).v = (kv : Int) := ⟨(L.getD k .z0).v.toNat, by omega⟩
      rw [hkv] at x8 hvk HS
      rw [Int.toNat_natCast] at HS
      clear hkv
      have hw64v : IntKind.u64.wrap (kv : Int) = (kv : Int) := by rw [IntKind.wrap_u64]; omega
      generalize bodyF L k = xs at *
      obtain ⟨y0, y1, y2, y3, y4, y5, y6, y7, y8⟩ := box9 wr 36 kn kv
      have hba := below_alloc wr (.cells #[.int .u8 (bt (kn) 0), .int .u8 (bt (kn) 1), .int .u8 (bt (kn) 2), .int .u8 (bt (kn) 3), .int .u8 (bt (kn) 4), .int .u8 (bt (kn) 5), .int .u8 (bt (kn) 6), .int .u8 (bt (kn) 7), .int .i64 (kv : Int)] 36)
      have hoV := ho.below hba
      have hwV : w.heap.size ≤ (wr.alloc (.cells #[.int .u8 (bt (kn) 0), .int .u8 (bt (kn) 1), .int .u8 (bt (kn) 2), .int .u8 (bt (kn) 3), .int .u8 (bt (kn) 4), .int .u8 (bt (kn) 5), .int .u8 (bt (kn) 6), .int .u8 (bt (kn) 7), .int .i64 (kv : Int)] 36)).heap.size := Nat.le_trans hbb.size hba.size
      have hbV := hbw.trans (hba.mono hbw.size)
      clear ho hba
      go_wp2_with fail
      generalize hV0 : (wr.alloc (.cells #[.int .u8 (bt (kn) 0), .int .u8 (bt (kn) 1), .int .u8 (bt (kn) 2), .int .u8 (bt (kn) 3), .int .u8 (bt (kn) 4), .int .u8 (bt (kn) 5), .int .u8 (bt (kn) 6), .int .u8 (bt (kn) 7), .int .i64 (kv : Int)] 36)) = V0 at *
      clear hV0 x0 x1 x2 x3 x4 x5 x6 x7 x8
      generalize wr.heap.size = gb at *
      have cP : ∀ V, Bl V0 V → ∀ xb, V.heap[xb]? = some (Obj.cells #[.int .u64 kn, .int .u64 kv] 43) → _ := fun V hV xb hx => put2_any p' n' c' xs xb kn kv V ((hoV.rd).below hV) hx hfk (by omega) (by omega)
      have hS0 : Bl V0 V0.drew := (Below.refl _ _).drew
      refine wp_region_det [0, 1, 2, 3, 4, 5, 6] (Bl V0) (Bl V0) (by kernel_rfl) hS0 ?_
      refine wpDet_take ?vM0 (Bl.stays V0) (fun _ h => h) (i := 0) rfl (by kernel_rfl) (by kernel_rfl) (by kernel_rfl) (by kernel_rfl) (fun _ _ _ h => h) (Gives.value (by rfl) ?yM0) ?rM0
      case yM0 => (intro w' hSw; (try dsimp only at hSw); go_simp; try with_reducible rfl)
      (try simp only [Act.put, List.getElem_toArray, List.getElem_cons_zero, List.getElem_cons_succ, List.setIfInBounds_toArray, List.set_cons_zero, List.set_cons_succ])
      refine wpDet_take ?vM1 (Bl.stays V0) (fun _ h => h) (i := 1) rfl (by kernel_rfl) (by kernel_rfl) (by kernel_rfl) (by kernel_rfl) (fun _ _ _ h => h) (Gives.value (by rfl) ?yM1) ?rM1
      case yM1 => (intro w' hSw; (try dsimp only at hSw); go_simp; try with_reducible rfl)
      (try simp only [Act.put, List.getElem_toArray, List.getElem_cons_zero, List.getElem_cons_succ, List.setIfInBounds_toArray, List.set_cons_zero, List.set_cons_succ])
      refine wpDet_take ?vM2 (Bl.stays V0) (fun _ h => h) (i := 2) rfl (by kernel_rfl) (by kernel_rfl) (by kernel_rfl) (by kernel_rfl) (fun _ _ _ h => h) (Gives.value (by rfl) ?yM2) ?rM2
      case yM2 => (intro w' hSw; have z0 := ((show Below _ _ _ from hSw).cell (p := ⟨gb, 0, none⟩) (World.block_lt_of_cell? _ _ y0)).trans y0; have z1 := ((show Below _ _ _ from hSw).cell (p := ⟨gb, 1, none⟩) (World.block_lt_of_cell? _ _ y1)).trans y1; have z2 := ((show Below _ _ _ from hSw).cell (p := ⟨gb, 2, none⟩) (World.block_lt_of_cell? _ _ y2)).trans y2; have z3 := ((show Below _ _ _ from hSw).cell (p := ⟨gb, 3, none⟩) (World.block_lt_of_cell? _ _ y3)).trans y3; have z4 := ((show Below _ _ _ from hSw).cell (p := ⟨gb, 4, none⟩) (World.block_lt_of_cell? _ _ y4)).trans y4; have z5 := ((show Below _ _ _ from hSw).cell (p := ⟨gb, 5, none⟩) (World.block_lt_of_cell? _ _ y5)).trans y5; have z6 := ((show Below _ _ _ from hSw).cell (p := ⟨gb, 6, none⟩) (World.block_lt_of_cell? _ _ y6)).trans y6; have z7 := ((show Below _ _ _ from hSw).cell (p := ⟨gb, 7, none⟩) (World.block_lt_of_cell? _ _ y7)).trans y7; have z8 := ((show Below _ _ _ from hSw).cell (p := ⟨gb, 8, none⟩) (World.block_lt_of_cell? _ _ y8)).trans y8; (try dsimp only at hSw); go_simp; try with_reducible rfl)
      (try simp only [Act.put, List.getElem_toArray, List.getElem_cons_zero, List.getElem_cons_succ, List.setIfInBounds_toArray, List.set_cons_zero, List.set_cons_succ])
      refine wpDet_take (.int .u64 kn) (Bl.stays V0) (fun _ h => h) (i := 3) rfl (by kernel_rfl) (by kernel_rfl) (by kernel_rfl) (by kernel_rfl) (fun _ _ _ h => h) (Gives.call 14 #[.agg #[.int .u8 (bt (kn) 0), .int .u8 (bt (kn) 1), .int .u8 (bt (kn) 2), .int .u8 (bt (kn) 3), .int .u8 (bt (kn) 4), .int .u8 (bt (kn) 5), .int .u8 (bt (kn) 6), .int .u8 (bt (kn) 7)]] (by rfl) (fun _ => by first | (go_simp; done) | (go_simp; rfl)) (fun W hW => number8 kn hfk W)) ?_
      (try simp only [Act.put, List.getElem_toArray, List.getElem_cons_zero, List.getElem_cons_succ, List.setIfInBounds_toArray, List.set_cons_zero, List.set_cons_succ])
      refine wpDet_take ?vM4 (Bl.stays V0) (fun _ h => h) (i := 4) rfl (by kernel_rfl) (by kernel_rfl) (by kernel_rfl) (by kernel_rfl) (fun _ _ _ h => h) (Gives.value (by rfl) ?yM4) ?rM4
      case yM4 => (intro w' hSw; (try dsimp only at hSw); go_simp; try with_reducible rfl)
      (try simp only [Act.put, List.getElem_toArray, List.getElem_cons_zero, List.getElem_cons_succ, List.setIfInBounds_toArray, List.set_cons_zero, List.set_cons_succ])
      refine wpDet_take ?vM5 (Bl.stays V0) (fun _ h => h) (i := 5) rfl (by kernel_rfl) (by kernel_rfl) (by kernel_rfl) (by kernel_rfl) (fun _ _ _ h => h) (Gives.value (by rfl) ?yM5) ?rM5
      case yM5 => (intro w' hSw; have z0 := ((show Below _ _ _ from hSw).cell (p := ⟨gb, 0, none⟩) (World.block_lt_of_cell? _ _ y0)).trans y0; have z1 := ((show Below _ _ _ from hSw).cell (p := ⟨gb, 1, none⟩) (World.block_lt_of_cell? _ _ y1)).trans y1; have z2 := ((show Below _ _ _ from hSw).cell (p := ⟨gb, 2, none⟩) (World.block_lt_of_cell? _ _ y2)).trans y2; have z3 := ((show Below _ _ _ from hSw).cell (p := ⟨gb, 3, none⟩) (World.block_lt_of_cell? _ _ y3)).trans y3; have z4 := ((show Below _ _ _ from hSw).cell (p := ⟨gb, 4, none⟩) (World.block_lt_of_cell? _ _ y4)).trans y4; have z5 := ((show Below _ _ _ from hSw).cell (p := ⟨gb, 5, none⟩) (World.block_lt_of_cell? _ _ y5)).trans y5; have z6 := ((show Below _ _ _ from hSw).cell (p := ⟨gb, 6, none⟩) (World.block_lt_of_cell? _ _ y6)).trans y6; have z7 := ((show Below _ _ _ from hSw).cell (p := ⟨gb, 7, none⟩) (World.block_lt_of_cell? _ _ y7)).trans y7; have z8 := ((show Below _ _ _ from hSw).cell (p := ⟨gb, 8, none⟩) (World.block_lt_of_cell? _ _ y8)).trans y8; (try dsimp only at hSw); go_simp; try with_reducible rfl)
      (try simp only [Act.put, List.getElem_toArray, List.getElem_cons_zero, List.getElem_cons_succ, List.setIfInBounds_toArray, List.set_cons_zero, List.set_cons_succ])
      refine wpDet_take (.int .u64 (kv : Int)) (Bl.stays V0) (fun _ h => h) (i := 6) rfl (by kernel_rfl) (by kernel_rfl) (by kernel_rfl) (by kernel_rfl) (fun _ _ _ h => h) (Gives.value (by rfl) ?yM6) ?rM6
      case yM6 => (intro w' hSw; (try dsimp only at hSw); go_simp; try with_reducible rfl)
      (try simp only [Act.put, List.getElem_toArray, List.getElem_cons_zero, List.getElem_cons_succ, List.setIfInBounds_toArray, List.set_cons_zero, List.set_cons_succ])
      refine wpDet_ready (rs := [7]) (by kernel_rfl) (by simp) (AllDet.cons rfl (fun V hV K hK => ?_) AllDet.nil)
      rw [if_pos (by rfl)]
      refine wp_value (.slice (some ⟨V.heap.size, 0, none⟩) 2 2) (V.alloc (.cells #[.int .u64 kn, .int .u64 kv] 43)) (by first | (go_simp; done) | (go_simp; rfl)) ?_
      have hxl : V0.heap.size ≤ V.heap.size := (Bl.out hV).size
      refine hK.out (BX V0 V.heap.size kn kv) _ _ (BX.stays _ _ _ _) (fun _ _ h => h.1) ⟨Bl.stays V0 V _ hV (below_alloc _ _), heap_alloc_new _ _⟩ ?_
      clear hK K hV
      generalize V.heap.size = xb at *
      (try simp only [Act.put, List.getElem_toArray, List.getElem_cons_zero, List.getElem_cons_succ, List.setIfInBounds_toArray, List.set_cons_zero, List.set_cons_succ])
      refine wpDet_ready (rs := [8]) (by kernel_rfl) (by simp) (AllDet.cons rfl (fun V hV K hK => ?_) AllDet.nil)
      rw [if_pos (by rfl)]
      have hCv := cP V hV.1 xb hV.2
      refine wp_enterX 17 #[.slice p' n' c', .slice (some ⟨xb, 0, none⟩) 2 2] (by first | (go_simp; done) | (go_simp; rfl)) (fun v W => (∃ p2 c2 n2, v = .slice p2 n2 c2 ∧ n2 ≤ n' + 20 ∧ Ow .u8 5 W V.heap.size p2 n2 c2 (xs ++ (putL kn ++ putL kv))) ∧ Below V.heap.size V W) hCv ?_
      rintro v7 V7 ⟨⟨p2, c2, n2, rfl, hn2, ho7⟩, hb7⟩
      have hz : BO V0 p2 n2 c2 (xs ++ (putL kn ++ putL kv)) V7 := ⟨Bl.stays V0 V _ hV.1 hb7, ho7.lower (Bl.out hV.1).size⟩
      refine hK.out (BO V0 p2 n2 c2 (xs ++ (putL kn ++ putL kv))) _ _ (BO.stays _ _ _ _ _) (fun _ _ h => h.1) hz ?_
      clear hK K hV hCv hb7 ho7 hz
      (try simp only [Act.put, List.getElem_toArray, List.getElem_cons_zero, List.getElem_cons_succ, List.setIfInBounds_toArray, List.set_cons_zero, List.set_cons_succ])
      refine wpDet_ready (rs := [9]) (by kernel_rfl) (by simp) (AllDet.cons rfl (fun V hV K hK => ?_) AllDet.nil)
      rw [if_pos (by rfl)]
      refine wp_value (.slice p2 n2 c2) V (by first | (go_simp; done) | (go_simp; rfl)) ?_
      refine hK.out (BO V0 p2 n2 c2 (xs ++ (putL kn ++ putL kv))) _ _ (BO.stays _ _ _ _ _) (fun _ _ h => h.1) hV ?_
      clear hK K hV
      (try simp only [Act.put, List.getElem_toArray, List.getElem_cons_zero, List.getElem_cons_succ, List.setIfInBounds_toArray, List.set_cons_zero, List.set_cons_succ])
      refine wpDet_done (by kernel_rfl) (fun W3 hV => ?_) _
      obtain ⟨hB9, ho9⟩ := hV
      have hB9 := Bl.out hB9
      have hbW := hbV.trans (hB9.mono hbV.size)
      clear cP hoV hS0 y0 y1 y2 y3 y4 y5 y6 y7 y8
      go_wp2_with fail
      go_roundw
      case rel => exact ⟨k + 1, p2, c2, n2, by omega, by go_num, rfl, by omega, by rw [HS.out]; exact ho9.lower hwV, hbW⟩
      case measure => simp [intOf]; omega
    · obtain rfl : k = n := by omega
      have HBk : Hid (bodyF L k = bodyL L) := by unfold Hid bodyL; rw [hl]
      rw [HBk.out] at ho
      have hrb := ho.rd
      have hkr := hk3.below hbw
      have hby : By (bodyL L) := bodyF_by _ _
      have hSh2 := hSh p' n' c' (bodyL L) wr hkr hrb hby
      by_cases h0 : k = 0
      · have HP : Hid (passL K L = []) := by unfold Hid passL; rw [if_pos (by omega)]
        have hki : ((k : Int) == 0) = true := by simp [h0]
        clear h0 hSh hr3 hk3 hMv HBk
        generalize shN (digest K (bodyL L)) 8 = dg at *
        go_wp2_with fail
        refine hSh2.mono ?_
        rintro e w5 ⟨rfl, hb5⟩
        clear hSh2
        go_wp2_with fail
        go_ret2
        exact ⟨none, 0, by rw [HP.out]; rfl, by rw [HP.out]; exact Rd.empty _ _ _ _ (fun _ => rfl), hbb.trans (hb5.mono hbb.size)⟩
      · have HP : Hid (passL K L = bodyL L ++ eigL (shN (digest K (bodyL L)) 8)) := by unfold Hid passL; rw [if_neg (by omega)]
        have hki : ((k : Int) == 0) = false := by simp; omega
        have c8 := fun (m : Nat) (W : World) => eight8 m W
        clear h0 hSh hr3 hk3 hMv HBk hby hkr hrb
        generalize shN (digest K (bodyL L)) 8 = dg at *
        generalize bodyL L = bl at *
        go_wp2_with fail
        refine hSh2.mono ?_
        rintro e w5 ⟨rfl, hb5⟩
        have ho5 := ho.below hb5
        have hbb5 := hbb.trans (hb5.mono hbb.size)
        clear hSh2 ho
        go_wp2_with fail
        refine (c8 _ _).mono ?_
        rintro e w6 ⟨rfl, hb6⟩
        have ho6 := ho5.below hb6
        have hbb6 := hbb5.trans (hb6.mono hbb5.size)
        have hba := below_alloc w6 (.cells #[.int .u8 (bt (dg) 0), .int .u8 (bt (dg) 1), .int .u8 (bt (dg) 2), .int .u8 (bt (dg) 3), .int .u8 (bt (dg) 4), .int .u8 (bt (dg) 5), .int .u8 (bt (dg) 6), .int .u8 (bt (dg) 7)] 33)
        have ho7 := ho6.below hba
        have hbb7 := hbb6.trans (hba.mono hbb6.size)
        have hE : Rd .u8 (w6.alloc (.cells #[.int .u8 (bt (dg) 0), .int .u8 (bt (dg) 1), .int .u8 (bt (dg) 2), .int .u8 (bt (dg) 3), .int .u8 (bt (dg) 4), .int .u8 (bt (dg) 5), .int .u8 (bt (dg) 6), .int .u8 (bt (dg) 7)] 33)) (some ⟨w6.heap.size, 0, none⟩) 8 8 (eigL dg) := by
          refine ⟨rfl, Nat.le_refl _, (fun h => by cases h), fun _ => ⟨w6.heap.size, 0, rfl, fun i hi => ?_⟩⟩
          rw [Nat.zero_add]
          have := (ArrI.new 33 .u8 w6 (eigL dg)).cell (i := i) hi
          rw [nums_bt] at this
          exact this
        obtain ⟨i5, hi5, hz5, hs5, hy5⟩ := info_parts info5
        clear c8 ho5 ho6
        go_wp2_with (refine wpList_app _ rfl (.tmp 55) (.tmp 56) 27 rfl .u8 5 i5 _ 1 Tryd.underlying27 hi5 hz5 hs5 hy5 rfl w.heap.size p' n' c' bl rfl ho7 _ 8 8 (eigL dg) rfl hE ?c1 ?c2 ?c3 ?_)
        case c1 => omega
        case c2 => unfold maxLen; omega
        case c3 => exact hbb7.size
        intro p9 c9 w9 ho9 hb9
        have hl9 := ho9.len
        have HL : Hid ((bl ++ eigL dg).length = n' + 8) := hl9
        clear hl9
        go_wp2_with fail
        go_ret2
        exact ⟨p9, c9, by rw [HP.out, HL.out]; rfl, by rw [HP.out, HL.out]; exact ho9.rd, hbb7.trans hb9⟩

end Go.Proofs.YtphdbpljgilcgaaDoor.M
