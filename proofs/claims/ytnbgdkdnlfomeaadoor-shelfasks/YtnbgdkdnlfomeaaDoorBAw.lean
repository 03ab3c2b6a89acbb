/-
  Own text: the example.
-/
import Derived.Test.YtnbgdkdnlfomeaaDoorBAw0
import Derived.Test.YtnbgdkdnlfomeaaDoorBEq
namespace Go.Proofs.YtnbgdkdnlfomeaaDoor.M
open Go.ChangeShapes Go.WideShapes Go.ChangeAt Go.RowKit Go.ChangeMaps Go.MapKept Go.Maps Go.Shelf Go.Proofs
set_option linter.unusedSimpArgs false

/-- The key "a". -/
def kA : Nat := 6989586621679009792

theorem kA_pad : padS ⟨#[97]⟩ = eigL kA := by decide +kernel

theorem kA_row : nums .u8 (padS ⟨#[97]⟩) = #[.int .u8 (bt (kA) 0), .int .u8 (bt (kA) 1), .int .u8 (bt (kA) 2), .int .u8 (bt (kA) 3), .int .u8 (bt (kA) 4), .int .u8 (bt (kA) 5), .int .u8 (bt (kA) 6), .int .u8 (bt (kA) 7)] := by rw [kA_pad]; exact nums_bt kA

theorem keyA_any (w : World) (hT : Tabs w) : Calls Tryd.prog 45 #[.string ⟨#[97]⟩] w fun e w' => e = .returned (.agg #[.int .u8 (bt (kA) 0), .int .u8 (bt (kA) 1), .int .u8 (bt (kA) 2), .int .u8 (bt (kA) 3), .int .u8 (bt (kA) 4), .int .u8 (bt (kA) 5), .int .u8 (bt (kA) 6), .int .u8 (bt (kA) 7)]) ∧ Below w.heap.size w w' := by
  rw [← kA_row]
  exact key9_any ⟨#[97]⟩ w (by decide) hT (by decide +kernel) (by decide +kernel)

/-- The record of the example, and the shelves behind it. -/
def exR : Rc := ⟨1, 1, kA, 1, ⟨#[120]⟩, 0, 1⟩
def exS : Sh := ⟨⟨0, 0, [], fun _ => .z0⟩, [exR], 0⟩
def exT : Sh := ⟨⟨0, 0, [], fun _ => .z0⟩, [exR], 1⟩

theorem ex_n1 : Sh.z0.nx 1 kA ⟨#[120]⟩ 0 1 = exR := rfl
theorem ex_n2 : Sh.z0.nextE exR = 0 := by decide +kernel
theorem ex_n3 : Sh.z0.nextR exR = exR := by unfold Sh.nextR; rw [ex_n2]; rfl
theorem ex_a1 : Sh.z0.addE exR = 0 := by decide +kernel
theorem ex_a2 : Sh.z0.addS exR = exS := by unfold Sh.addS; rw [ex_a1]; rfl
theorem ex_m1 : exS.nextE (exS.nx 1 kA ⟨#[121]⟩ 0 1) = 153 := by decide +kernel
theorem ex_m2 : exS.nextR (exS.nx 1 kA ⟨#[121]⟩ 0 1) = .z0 := by unfold Sh.nextR; rw [ex_m1]; rfl
theorem ex_c1 : (lookC (exS.low.adds (exS.tail.take (exS.com - exS.low.ix).toNat)).cs kA).getD .z0 = .z0 := by rfl
theorem ex_s1 : exS.openS 1 = 0 := by decide +kernel
theorem ex_s2 : exS.setS 1 = exT := by unfold Sh.setS; rw [ex_s1]; rfl
theorem ex_t1 : (lookC (exT.low.adds (exT.tail.take (exT.com - exT.low.ix).toNat)).cs kA).getD .z0 = ⟨kA, 1, ⟨#[120]⟩⟩ := by rfl
theorem ex_t2 : exT.last - exT.com = 0 := by decide +kernel

theorem field_cel2 (c : Ce) (w : World) : (Instr.field 53 (.agg #[.int .u8 (bt c.k 0), .int .u8 (bt c.k 1), .int .u8 (bt c.k 2), .int .u8 (bt c.k 3), .int .u8 (bt c.k 4), .int .u8 (bt c.k 5), .int .u8 (bt c.k 6), .int .u8 (bt c.k 7), .int .i64 c.v, .string c.s]) 2).run Tryd.prog w = .ok (.string c.s) w := by
  have hi : (Tryd.prog.info? 9).map (·.size) = some 1 := by kernel_rfl
  cases hq : Tryd.prog.info? 9 with
  | none => simp [hq] at hi
  | some i =>
    have hs : i.size = 1 := by simpa [hq] using hi
    simp [Instr.field, run_underlying Tryd.underlying53, part, asAgg, sizeOf, typeInfo, hq, hs]

theorem GS.below0 {w W : World} {g b : Nat} {p : Option Addr} {c : Nat} {p' : Option Addr} {n' c' : Nat} {s : Sh} (h : GS w g b p c p' n' c' s W) {B : Nat} (hB : B ≤ w.heap.size) (hg : B ≤ g) (hm : ∀ k, mine p c k → B ≤ k) : Below B w W :=
  h.ch.below hB fun k hk => by
    rcases hk with rfl | hk
    · exact hg
    · exact hm k hk

theorem cel0 : (#[.int .u8 (bt Ce.z0.k 0), .int .u8 (bt Ce.z0.k 1), .int .u8 (bt Ce.z0.k 2), .int .u8 (bt Ce.z0.k 3), .int .u8 (bt Ce.z0.k 4), .int .u8 (bt Ce.z0.k 5), .int .u8 (bt Ce.z0.k 6), .int .u8 (bt Ce.z0.k 7), .int .i64 Ce.z0.v, .string Ce.z0.s] : Array Value) = #[.int .u8 0, .int .u8 0, .int .u8 0, .int .u8 0, .int .u8 0, .int .u8 0, .int .u8 0, .int .u8 0, .int .i64 0, .string ⟨#[]⟩] := by simp [Ce.z0, bt]

theorem eql_cel0 (w : World) : (binOp .eql 53 (.agg #[.int .u8 0, .int .u8 0, .int .u8 0, .int .u8 0, .int .u8 0, .int .u8 0, .int .u8 0, .int .u8 0, .int .i64 0, .string ⟨#[]⟩]) (.agg #[.int .u8 0, .int .u8 0, .int .u8 0, .int .u8 0, .int .u8 0, .int .u8 0, .int .u8 0, .int .u8 0, .int .i64 0, .string ⟨#[]⟩])).run Tryd.prog w = .ok (.bool true) w := by
  have h := eql_cel .z0 .z0 w
  rw [cel0, show eqCe .z0 .z0 = true from by simp [eqCe, eqBt, Ce.z0]] at h
  exact h

set_option maxRecDepth 20000 in
set_option maxHeartbeats 4000000 in
theorem awake_any (w : World) (hT : Tabs w) : Calls Tryd.prog 12 #[] w fun e w' => e = .returned (.bool true) ∧ Below w.heap.size w w' := by
  have hN := new_any w
  have hK := fun W (h : Tabs W) => keyA_any W h
  go_enter Tryd.func12, Tryd.ntmps12
  go_wp2_with fail
  refine hN.mono ?_
  rintro e w1 ⟨g, b, rfl, hS1, hg, hb1⟩
  clear hN
  have hT1 := hT.up hb1
  go_wp2_with fail
  refine (hK _ hT1).mono ?_
  rintro e w2 ⟨rfl, hb2⟩
  have hbb2 := hb1.trans (hb2.mono hb1.size)
  have hS2 := hS1.below hb2
  have hT2 := hT1.up hb2
  have hNx := next_any hS2 1 kA (by decide) ⟨#[120]⟩ (by decide) 0 1 hT2
  rw [ex_n1, ex_n2, ex_n3] at hNx
  clear hS1 hT1 hb1 hb2
  go_wp2_with fail
  refine hNx.mono ?_
  rintro e w3 ⟨rfl, hb3⟩
  have hbb3 := hbb2.trans (hb3.mono hbb2.size)
  have hS3 := hS2.below hb3
  have hT3 := hT2.up hb3
  have e1 : exR.ix = 1 := rfl
  have e2 : exR.v = 1 := rfl
  have hb4 := below_alloc' w3 (.cells #[.int .i64 exR.ix, .int .i64 exR.ep, .int .u8 (bt exR.k 0), .int .u8 (bt exR.k 1), .int .u8 (bt exR.k 2), .int .u8 (bt exR.k 3), .int .u8 (bt exR.k 4), .int .u8 (bt exR.k 5), .int .u8 (bt exR.k 6), .int .u8 (bt exR.k 7), .int .i64 exR.v, .string exR.s, .int .i64 exR.c, .int .i64 exR.q] 64)
  have hA := add_any (hS3.below hb4) exR (by decide) (by decide) (hT3.up hb4)
  rw [ex_a1, ex_a2] at hA
  have hbb4 := hbb3.trans (hb4.mono hbb3.size)
  clear hNx hS2 hT2 hb3 hbb2 hbb3 hT3 hb4 hS3
  go_wp2_with fail
  refine Calls.mono (by exact hA) ?_
  rintro e w5 ⟨rfl, p', n', c', hG⟩
  clear hA
  have hS5 := hG.sh
  have hbb5 := hbb4.trans ((hG.below0 (B := w.heap.size) hbb4.size hg (fun k hk => absurd hk (by simp [mine]))))
  have hm5 : ∀ k, mine p' c' k → w.heap.size ≤ k := fun k hk => (hG.new k hk).elim (fun h => absurd h (by simp [mine])) (fun h => Nat.le_trans hbb4.size h)
  clear hG e1 e2 hbb4
  go_wp2_with fail
  refine (hK _ (hT.up hbb5)).mono ?_
  rintro e w6 ⟨rfl, hb6⟩
  have hS6 := hS5.below hb6
  have hbb6 := hbb5.trans (hb6.mono hbb5.size)
  have hNx := next_any hS6 1 kA (by decide) ⟨#[121]⟩ (by decide) 0 1 (hT.up hbb6)
  rw [ex_m1, ex_m2] at hNx
  clear hS5 hbb5 hb6
  go_wp2_with fail
  refine hNx.mono ?_
  rintro e w7 ⟨rfl, hb7⟩
  have hb8 := below_alloc' w7 (.cells #[.int .i64 Rc.z0.ix, .int .i64 Rc.z0.ep, .int .u8 (bt Rc.z0.k 0), .int .u8 (bt Rc.z0.k 1), .int .u8 (bt Rc.z0.k 2), .int .u8 (bt Rc.z0.k 3), .int .u8 (bt Rc.z0.k 4), .int .u8 (bt Rc.z0.k 5), .int .u8 (bt Rc.z0.k 6), .int .u8 (bt Rc.z0.k 7), .int .i64 Rc.z0.v, .string Rc.z0.s, .int .i64 Rc.z0.c, .int .i64 Rc.z0.q] 64)
  have hS8 := (hS6.below hb7).below hb8
  have hbb8 := (hbb6.trans (hb7.mono hbb6.size)).trans (hb8.mono (hbb6.trans (hb7.mono hbb6.size)).size)
  have hK8 := hK _ (hT.up hbb8)
  clear hNx hS6 hbb6 hb7 hb8
  go_wp2_with fail
  refine Calls.mono (by exact hK8) ?_
  rintro e w9 ⟨rfl, hb9⟩
  have hS9 := hS8.below hb9
  have hbb9 := hbb8.trans (hb9.mono hbb8.size)
  have hC := clean_any hS9 kA (by decide)
  rw [ex_c1, cel0] at hC
  clear hK8 hS8 hbb8 hb9
  go_wp2_with fail
  refine hC.mono ?_
  rintro e w10 ⟨rfl, hb10⟩
  have hb11 := below_alloc' w10 (.cells #[.int .u8 0, .int .u8 0, .int .u8 0, .int .u8 0, .int .u8 0, .int .u8 0, .int .u8 0, .int .u8 0, .int .i64 0, .string ⟨#[]⟩] 53)
  have hS11 := (hS9.below hb10).below hb11
  have hbb11 := (hbb9.trans (hb10.mono hbb9.size)).trans (hb11.mono (hbb9.trans (hb10.mono hbb9.size)).size)
  clear hC hS9 hbb9 hb10 hb11
  have kE := eql_cel0
  have hSt := settle_any hS11 1
  rw [ex_s1, ex_s2] at hSt
  clear hS11
  go_wp2_with fail
  refine Calls.mono (by exact hSt) ?_
  rintro e w12 ⟨rfl, hG⟩
  have hS12 := hG.sh
  have hbb12 := hbb11.trans (hG.below0 (B := w.heap.size) hbb11.size hg hm5)
  clear hSt hG kE hbb11 hm5
  go_wp2_with fail
  refine (hK _ (hT.up hbb12)).mono ?_
  rintro e w13 ⟨rfl, hb13⟩
  have hS13 := hS12.below hb13
  have hbb13 := hbb12.trans (hb13.mono hbb12.size)
  have hC := clean_any hS13 kA (by decide)
  rw [ex_t1] at hC
  clear hK hS12 hbb12 hb13
  go_wp2_with fail
  refine hC.mono ?_
  rintro e w14 ⟨rfl, hb14⟩
  have hS14 := hS13.below hb14
  have hbb14 := hbb13.trans (hb14.mono hbb13.size)
  have hD := dirty_any hS14
  rw [ex_t2] at hD
  have hF := field_cel2 ⟨kA, 1, ⟨#[120]⟩⟩
  clear hC hS13 hbb13 hb14
  go_wp2_with fail
  refine hD.mono ?_
  rintro e w15 ⟨rfl, hb15⟩
  have hbb15 := hbb14.trans (hb15.mono hbb14.size)
  clear hD hS14 hbb14 hb15 hF
  go_wp2_with fail
  go_ret
  exact ⟨rfl, hbb15⟩

end Go.Proofs.YtnbgdkdnlfomeaaDoor.M
