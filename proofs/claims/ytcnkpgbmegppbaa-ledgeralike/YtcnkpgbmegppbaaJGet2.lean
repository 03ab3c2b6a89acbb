/-
  Own text: the contract of ledger's Get.
-/
import Derived.Test.YtcnkpgbmegppbaaJGet
import Derived.Test.YtcnkpgbmegppbaaJArr
namespace Go.Proofs.Ytcnkpgbmegppbaa.M
open Go.ChangeShapes Go.WideShapes Go.ChangeAt Go.RowKit

theorem RdS.ex {w w' : World} {g : Nat} {s : List Int × Nat} (h : RdS w g s) (hb : Below w.heap.size w w') : RdS w' g s := by
  obtain ⟨p, n, c, h⟩ := h
  exact ⟨p, n, c, h.below hb h.lt⟩

theorem cfNext : Cf 36 := fun args w => cf_of Try.func36 (by kernel_rfl) (by kernel_rfl) args w

set_option maxRecDepth 20000 in
theorem next_any (r g : Nat) (s : List Int × Nat) (w : World) (hp : w.cell? ⟨r, 0, none⟩ = some (.pointer (some ⟨g, 0, none⟩))) (h : RdS w g s) :
    Calls Try.prog 36 #[.pointer (some ⟨r, 0, none⟩)] w fun e w' => e = .returned (.int .i64 (wR s).1) ∧ RdS w' g (wR s).2 ∧ Ex g w w' := by
  have hW := within_any g s w h
  clear h
  go_enter Try.func36, Try.ntmps36
  go_wp2_with fail
  refine hW.mono ?_
  rintro e w1 ⟨rfl, hR, hx⟩
  go_wp2_with fail
  go_ret
  exact ⟨rfl, hR, hx⟩

/-- What four numbers are read. -/
def cmd4 (xs : List Int) : Int × Int × Int × Int × Int :=
  let a := wR (xs, 0)
  let b := wR a.2
  let c := wR b.2
  let d := wR c.2
  (a.1, b.1, c.1, d.1, endR d.2)

/-- The command that bytes are. -/
def getR (xs : List Int) : Option (Int × Int × Int × Int) :=
  if (cmd4 xs).2.2.2.2 = 0 ∧ cmdOk (cmd4 xs).1 (cmd4 xs).2.1 (cmd4 xs).2.2.1 (cmd4 xs).2.2.2.1 = true then some ((cmd4 xs).1, (cmd4 xs).2.1, (cmd4 xs).2.2.1, (cmd4 xs).2.2.2.1) else none

/-- What Get answers. -/
def getV : Option (Int × Int × Int × Int) → Value
  | none => .tuple #[.agg #[.int .i64 0, .int .i64 0, .int .i64 0, .int .i64 0], .int .i64 120]
  | some (k, n, s, e) => .tuple #[.agg #[.int .i64 k, .int .i64 n, .int .i64 s, .int .i64 e], .int .i64 0]

theorem cmd_info : (Try.prog.info? 23).map (·.size) = some 4 := by kernel_rfl

set_option maxRecDepth 20000 in
set_option maxHeartbeats 4000000 in
theorem Get_any (p : Option Addr) (n c : Nat) (xs : List Int) (w : World) (hr : Rd .u8 w p n c xs) (hx : By xs) (hn : n ≤ 1099511627776) :
    Calls Try.prog 11 #[.slice p n c] w fun r w' => r = .returned (getV (getR xs)) ∧ Below w.heap.size w w' := by
  have hb0 : Below w.heap.size w (w.alloc (.cells #[.int .i64 0, .int .i64 0, .int .i64 0, .int .i64 0] 23)) := (Below.refl _ _).alloc (Nat.le_refl _) _
  have hZ := At.new 23 w #[.int .i64 0, .int .i64 0, .int .i64 0, .int .i64 0]
  have g1 := read_any p n c xs _ (hr.below hb0) hx hn
  have hcf : ∀ (args : Array Value) (w : World), (callFunc 36 args).run Try.prog w = .ok (.enter 36 args) w := cfNext
  have HG : Hid (getR xs = if endR (wR (wR (wR (wR (xs, 0)).2).2).2).2 = 0 ∧ cmdOk (wR (xs, 0)).1 (wR (wR (xs, 0)).2).1 (wR (wR (wR (xs, 0)).2).2).1 (wR (wR (wR (wR (xs, 0)).2).2).2).1 = true then some ((wR (xs, 0)).1, (wR (wR (xs, 0)).2).1, (wR (wR (wR (xs, 0)).2).2).1, (wR (wR (wR (wR (xs, 0)).2).2).2).1) else none) := rfl
  clear hr
  go_enter Try.func11, Try.ntmps11
  go_wp2_with fail
  refine g1.mono ?_
  rintro e w1 ⟨g, p1, c1, rfl, hR1, hg, hsz, hb1⟩
  have hbb := hb0.trans (hb1.mono hb0.size)
  have hba := below_alloc w1 (.cells #[.pointer (some ⟨g, 0, none⟩)] 67)
  have hb2 := hbb.trans (hba.mono hbb.size)
  replace hZ := (hZ.below hb1).below hba
  have hS0 : RdS w1 g (xs, 0) := ⟨p1, n, c1, hR1⟩
  have hS := hS0.ex hba
  have hP := At.new 67 w1 #[.pointer (some ⟨g, 0, none⟩)]
  have hgw : w.heap.size + 1 ≤ g := by simpa using hg
  have hne1 : w1.heap.size ≠ g := by omega
  generalize hrr : w1.heap.size = r at *
  have q1 := hP.one
  obtain ⟨s0, HS0⟩ : ∃ s : List Int × Nat, Hid (s = (xs, 0)) := ⟨_, rfl⟩
  rw [← HS0.out] at HG hS
  have n1 := next_any r g s0 _ q1 hS
  have hzg : w.heap.size ≠ g := by omega
  have hgl : w.heap.size ≤ g := by omega
  clear g1 hR1 hb1 hbb hS0 hx hb0 HS0 hg hsz hgw hba
  have hglt : g < (w1.alloc (.cells #[.pointer (some ⟨g, 0, none⟩)] 67)).heap.size := by obtain ⟨_, _, _, hq⟩ := hS; exact hq.lt
  go_wp2_with fail
  generalize (w1.alloc (.cells #[.pointer (some ⟨g, 0, none⟩)] 67)) = w2 at *
  refine n1.mono ?_
  rintro e W1 ⟨rfl, hS1, hx1⟩
  have hP1 := hP.ex hx1 hne1
  have hZ1 := hZ.ex hx1 hzg
  have hB1 := hb2.trans (hx1.below hgl hglt)
  have hl1 : g < W1.heap.size := Nat.lt_of_lt_of_le hglt hx1.size
  obtain ⟨s1, HS1⟩ : ∃ s : List Int × Nat, Hid ((wR s0).2 = s) := ⟨_, rfl⟩
  obtain ⟨v1, HV1⟩ : ∃ v : Int, Hid ((wR s0).1 = v) := ⟨_, rfl⟩
  rw [HS1.out] at hS1 HG
  rw [HV1.out] at HG ⊢
  have p2 := hP1.one
  have n2 := next_any r g s1 _ p2 hS1
  clear n1 q1
  go_wp2_with fail
  refine n2.mono ?_
  rintro e W2 ⟨rfl, hS2, hx2⟩
  have hP2 := hP1.ex hx2 hne1
  have hZ2 := hZ1.ex hx2 hzg
  have hB2 := hB1.trans (hx2.below hgl hl1)
  have hl2 : g < W2.heap.size := Nat.lt_of_lt_of_le hl1 hx2.size
  obtain ⟨s2, HS2⟩ : ∃ s : List Int × Nat, Hid ((wR s1).2 = s) := ⟨_, rfl⟩
  obtain ⟨v2, HV2⟩ : ∃ v : Int, Hid ((wR s1).1 = v) := ⟨_, rfl⟩
  rw [HS2.out] at hS2 HG
  rw [HV2.out] at HG ⊢
  have p3 := hP2.one
  have n3 := next_any r g s2 _ p3 hS2
  clear n2 p2
  go_wp2_with fail
  refine n3.mono ?_
  rintro e W3 ⟨rfl, hS3, hx3⟩
  have hP3 := hP2.ex hx3 hne1
  have hZ3 := hZ2.ex hx3 hzg
  have hB3 := hB2.trans (hx3.below hgl hl2)
  have hl3 : g < W3.heap.size := Nat.lt_of_lt_of_le hl2 hx3.size
  obtain ⟨s3, HS3⟩ : ∃ s : List Int × Nat, Hid ((wR s2).2 = s) := ⟨_, rfl⟩
  obtain ⟨v3, HV3⟩ : ∃ v : Int, Hid ((wR s2).1 = v) := ⟨_, rfl⟩
  rw [HS3.out] at hS3 HG
  rw [HV3.out] at HG ⊢
  have p4 := hP3.one
  have n4 := next_any r g s3 _ p4 hS3
  clear n3 p3
  go_wp2_with fail
  refine n4.mono ?_
  rintro e W4 ⟨rfl, hS4, hx4⟩
  have hP4 := hP3.ex hx4 hne1
  have hZ4 := hZ3.ex hx4 hzg
  have hB4 := hB3.trans (hx4.below hgl hl3)
  have hl4 : g < W4.heap.size := Nat.lt_of_lt_of_le hl3 hx4.size
  obtain ⟨s4, HS4⟩ : ∃ s : List Int × Nat, Hid ((wR s3).2 = s) := ⟨_, rfl⟩
  obtain ⟨v4, HV4⟩ : ∃ v : Int, Hid ((wR s3).1 = v) := ⟨_, rfl⟩
  rw [HS4.out] at hS4 HG
  rw [HV4.out] at HG ⊢
  have p5 := hP4.one
  have hba := below_alloc W4 (.cells #[.int .i64 v1, .int .i64 v2, .int .i64 v3, .int .i64 v4] 23)
  have hS5 := hS4.ex hba
  have hP5 := hP4.below hba
  have hZ5 := hZ4.below hba
  have hB5 := hB4.trans (hba.mono hB4.size)
  have hC5 := At.new 23 W4 #[.int .i64 v1, .int .i64 v2, .int .i64 v3, .int .i64 v4]
  have hE := end_any g s4 _ hS5
  have p6 := hP5.one
  obtain ⟨c0, c1, c2, c3⟩ := hC5.four
  obtain ⟨z0, z1, z2, z3⟩ := hZ5.four
  have f0 := hZ5.free 0
  have f1 := hZ5.free 1
  have f2 := hZ5.free 2
  have f3 := hZ5.free 3
  have hK := fun W => lCheck_any v1 v2 v3 v4 W
  clear n4 p4
  go_wp2_with fail
  generalize (W4.alloc (.cells #[.int .i64 v1, .int .i64 v2, .int .i64 v3, .int .i64 v4] 23)) = W5 at *
  refine hE.mono ?_
  rintro e W6 ⟨rfl, hw6⟩
  subst hw6
  by_cases he : endR s4 = 0
  · rw [he]
    cases hk : cmdOk v1 v2 v3 v4 with
    | true =>
      have HN : Hid (getR xs = some (v1, v2, v3, v4)) := by unfold Hid; rw [HG.out, if_pos ⟨he, hk⟩]
      rw [hk] at hK
      unfold cmdV at hK
      simp only [if_true] at hK
      clear HG hk he hE HS1 HS2 HS3 HS4 HV1 HV2 HV3 HV4
      go_wp2_with fail
      refine (hK _).mono ?_
      rintro r W7 ⟨rfl, hb7⟩
      have hZ7 := hZ5.below hb7
      have hB7 := hB5.trans (hb7.mono hB5.size)
      have hC7 := hC5.below hb7
      clear c0 c1 c2 c3 z0 z1 z2 z3 f0 f1 f2 f3 hK p6 p5
      obtain ⟨c0, c1, c2, c3⟩ := hC7.four
      obtain ⟨z0, z1, z2, z3⟩ := hZ7.four
      have f0 := hZ7.free 0
      have f1 := hZ7.free 1
      have f2 := hZ7.free 2
      have f3 := hZ7.free 3
      go_wp2_with fail
      obtain ⟨Wf, hWf, hY, hbW⟩ := hZ7.put4 (Nat.le_refl _) w hB7 (.int .i64 v1) (.int .i64 v2) (.int .i64 v3) (.int .i64 v4)
      rw [← hWf]
      exact bodyPost_ret (results_row_tmp (p := 2) (u := 3) rfl _ _ w.heap.size _ _ _ rfl hY Try.underlying23 rfl cmd_info) rfl ⟨by rw [HN.out]; rfl, hbW⟩
    | false =>
      have HN : Hid (getR xs = none) := by unfold Hid; rw [HG.out, if_neg (fun h => by rw [hk] at h; cases h.2)]
      rw [hk] at hK
      unfold cmdV at hK
      simp only [Bool.false_eq_true, if_false] at hK
      clear HG hk he hE HS1 HS2 HS3 HS4 HV1 HV2 HV3 HV4
      go_wp2_with fail
      refine (hK _).mono ?_
      rintro r W7 ⟨rfl, hb7⟩
      have hZ7 := hZ5.below hb7
      have hB7 := hB5.trans (hb7.mono hB5.size)
      have hC7 := hC5.below hb7
      clear c0 c1 c2 c3 z0 z1 z2 z3 f0 f1 f2 f3 hK p6 p5
      obtain ⟨c0, c1, c2, c3⟩ := hC7.four
      obtain ⟨z0, z1, z2, z3⟩ := hZ7.four
      have f0 := hZ7.free 0
      have f1 := hZ7.free 1
      have f2 := hZ7.free 2
      have f3 := hZ7.free 3
      go_wp2_with fail
      obtain ⟨Wf, hWf, hY, hbW⟩ := hZ7.put4 (Nat.le_refl _) w hB7 (.int .i64 0) (.int .i64 0) (.int .i64 0) (.int .i64 0)
      rw [← hWf]
      exact bodyPost_ret (results_row_tmp (p := 2) (u := 3) rfl _ _ w.heap.size _ _ _ rfl hY Try.underlying23 rfl cmd_info) rfl ⟨by rw [HN.out]; rfl, hbW⟩
  · have HN : Hid (getR xs = none) := by unfold Hid; rw [HG.out, if_neg (fun h => he h.1)]
    have hEb : (endR s4 != 0) = true := by simp [he]
    generalize endR s4 = E at *
    clear HG he hE HS1 HS2 HS3 HS4 HV1 HV2 HV3 HV4 hK
    go_wp2_with fail
    obtain ⟨Wf, hWf, hY, hbW⟩ := hZ5.put4 (Nat.le_refl _) w hB5 (.int .i64 0) (.int .i64 0) (.int .i64 0) (.int .i64 0)
    rw [← hWf]
    exact bodyPost_ret (results_row_tmp (p := 2) (u := 3) rfl _ _ w.heap.size _ _ _ rfl hY Try.underlying23 rfl cmd_info) rfl ⟨by rw [HN.out]; rfl, hbW⟩

end Go.Proofs.Ytcnkpgbmegppbaa.M
