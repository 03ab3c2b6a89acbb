/-
  Own text: what a chain lacks: the contract of the program's Lacks.
-/
import Derived.Test.YtigojnpjpagfjaaDoorVChk
namespace Go.Proofs.YtigojnpjpagfjaaDoor.M
open Go.ChangeShapes Go.WideShapes Go.ChangeAt Go.RowKit

/-- How many members of a site there are. -/
def manyN (ms : List Mb) (s : Int) : Nat := ms.countP fun m => m.s == s

theorem manyN_le (ms : List Mb) (s : Int) : manyN ms s ≤ ms.length := List.countP_le_length

theorem manyN_snoc {ms : List Mb} {k : Nat} (h : k < ms.length) (s : Int) : manyN (ms.take (k + 1)) s = manyN (ms.take k) s + if (ms.getD k .z0).s = s then 1 else 0 := by
  unfold manyN
  rw [take_snoc_mb h, List.countP_append, List.countP_cons, List.countP_nil]
  simp

/-- How many too few. -/
def lackV (ms : List Mb) (v : Int) (s : Int) : Int := if (manyN ms s : Int) < v then v - manyN ms s else 0

theorem At.set {t : TypeId} {w : World} {g : Nat} {cs : Array Value} (h : At t w g cs) (i : Nat) (v : Value) : At t (w.setCell ⟨g, i, none⟩ v) g (cs.setIfInBounds i v) := heap_setCell_same w g i _ _ v h

theorem At.other {t : TypeId} {w : World} {g : Nat} {cs : Array Value} (h : At t w g cs) (b i : Nat) (v : Value) (hne : b ≠ g) : At t (w.setCell ⟨b, i, none⟩ v) g cs := by
  unfold At
  rw [Below.heap_setCell _ _ _ _ (by simpa using fun e => hne e.symm)]
  exact h

theorem results_wish {fn : Func} {p : Tmp} (h : fn.results = #[.cell p 25]) (tmps : Array Value) (w : World) (g : Nat) (cs : Array Value) (hs : cs.size = 3) (hp : tmps.getD p undef = .pointer (some ⟨g, 0, none⟩)) (hg : At 25 w g cs) :
    (results fn tmps).run Tryd.prog w = .ok (.agg cs) w := by
  have hp' : tmps[p]?.getD undef = .pointer (some ⟨g, 0, none⟩) := by simpa using hp
  have hi : (Tryd.prog.info? 25).map (·.size) = some cs.size := by rw [hs]; kernel_rfl
  simp [results, h, hp', asAddr, run_loadVar_row w g 25 25 cs (0, 0) _ hg Tryd.underlying25 rfl hi]

theorem ArrI.at3 {t : TypeId} {w : World} {g : Nat} {a b c : Int} (h : ArrI t .i64 w g [a, b, c]) : w.cell? ⟨g, 0, none⟩ = some (.int .i64 a) ∧ w.cell? ⟨g, 1, none⟩ = some (.int .i64 b) ∧ w.cell? ⟨g, 2, none⟩ = some (.int .i64 c) := ⟨h.cell (by simp), h.cell (by simp), h.cell (by simp)⟩

theorem ArrI.free3 {t : TypeId} {w : World} {g : Nat} {xs : List Int} (h : ArrI t .i64 w g xs) : w.frozen? ⟨g, 0, none⟩ = false ∧ w.frozen? ⟨g, 1, none⟩ = false ∧ w.frozen? ⟨g, 2, none⟩ = false := ⟨h.free 0, h.free 1, h.free 2⟩

/-- The boxes of Lacks: the wish, the answer, what there is, what is told. -/
structure LkB (W : World) (b : Nat) (v0 v1 v2 c0 c1 c2 o0 o1 o2 : Int) : Prop where
  wish : ArrI 25 .i64 W (b + 1) [v0, v1, v2]
  res : ArrI 25 .i64 W (b + 2) [0, 0, 0]
  has : ArrI 25 .i64 W (b + 3) [c0, c1, c2]
  out : ArrI 25 .i64 W (b + 4) [o0, o1, o2]

theorem LkB.below {W W' : World} {b : Nat} {v0 v1 v2 c0 c1 c2 o0 o1 o2 : Int} (h : LkB W b v0 v1 v2 c0 c1 c2 o0 o1 o2) (hb : Below W.heap.size W W') : LkB W' b v0 v1 v2 c0 c1 c2 o0 o1 o2 := ⟨h.wish.below hb, h.res.below hb, h.has.below hb, h.out.below hb⟩

theorem LkB.new (w : World) (o1 : Obj) (v0 v1 v2 : Int) : LkB (((((w.alloc o1).alloc (.cells #[.int .i64 v0, .int .i64 v1, .int .i64 v2] 25)).alloc (.cells #[.int .i64 0, .int .i64 0, .int .i64 0] 25)).alloc (.cells #[.int .i64 0, .int .i64 0, .int .i64 0] 25)).alloc (.cells #[.int .i64 0, .int .i64 0, .int .i64 0] 25)) w.heap.size v0 v1 v2 0 0 0 0 0 0 := by
  have e : ∀ (W : World) (x y z : Int) (b : Nat), W.heap.size = b → ArrI 25 .i64 (W.alloc (.cells #[.int .i64 x, .int .i64 y, .int .i64 z] 25)) b [x, y, z] := fun W x y z b hb => by
    subst hb
    exact ArrI.new 25 .i64 W [x, y, z]
  refine ⟨?_, ?_, ?_, ?_⟩
  · exact (((e _ _ _ _ _ (by simp)).alloc _).alloc _).alloc _
  · exact ((e _ _ _ _ _ (by simp)).alloc _).alloc _
  · exact (e _ _ _ _ _ (by simp)).alloc _
  · exact e _ _ _ _ _ (by simp)

theorem LkB.has0 {W : World} {b : Nat} {v0 v1 v2 c0 c1 c2 o0 o1 o2 : Int} (h : LkB W b v0 v1 v2 c0 c1 c2 o0 o1 o2) (x : Int) : LkB (W.setCell ⟨b + 3, 0, none⟩ (.int .i64 x)) b v0 v1 v2 x c1 c2 o0 o1 o2 := ⟨h.wish.other _ _ _ (by omega), h.res.other _ _ _ (by omega), h.has.set 0 x, h.out.other _ _ _ (by omega)⟩

theorem LkB.has1 {W : World} {b : Nat} {v0 v1 v2 c0 c1 c2 o0 o1 o2 : Int} (h : LkB W b v0 v1 v2 c0 c1 c2 o0 o1 o2) (x : Int) : LkB (W.setCell ⟨b + 3, 1, none⟩ (.int .i64 x)) b v0 v1 v2 c0 x c2 o0 o1 o2 := ⟨h.wish.other _ _ _ (by omega), h.res.other _ _ _ (by omega), h.has.set 1 x, h.out.other _ _ _ (by omega)⟩

theorem LkB.has2 {W : World} {b : Nat} {v0 v1 v2 c0 c1 c2 o0 o1 o2 : Int} (h : LkB W b v0 v1 v2 c0 c1 c2 o0 o1 o2) (x : Int) : LkB (W.setCell ⟨b + 3, 2, none⟩ (.int .i64 x)) b v0 v1 v2 c0 c1 x o0 o1 o2 := ⟨h.wish.other _ _ _ (by omega), h.res.other _ _ _ (by omega), h.has.set 2 x, h.out.other _ _ _ (by omega)⟩

theorem LkB.out0 {W : World} {b : Nat} {v0 v1 v2 c0 c1 c2 o0 o1 o2 : Int} (h : LkB W b v0 v1 v2 c0 c1 c2 o0 o1 o2) (x : Int) : LkB (W.setCell ⟨b + 4, 0, none⟩ (.int .i64 x)) b v0 v1 v2 c0 c1 c2 x o1 o2 := ⟨h.wish.other _ _ _ (by omega), h.res.other _ _ _ (by omega), h.has.other _ _ _ (by omega), h.out.set 0 x⟩

theorem LkB.out1 {W : World} {b : Nat} {v0 v1 v2 c0 c1 c2 o0 o1 o2 : Int} (h : LkB W b v0 v1 v2 c0 c1 c2 o0 o1 o2) (x : Int) : LkB (W.setCell ⟨b + 4, 1, none⟩ (.int .i64 x)) b v0 v1 v2 c0 c1 c2 o0 x o2 := ⟨h.wish.other _ _ _ (by omega), h.res.other _ _ _ (by omega), h.has.other _ _ _ (by omega), h.out.set 1 x⟩

theorem LkB.out2 {W : World} {b : Nat} {v0 v1 v2 c0 c1 c2 o0 o1 o2 : Int} (h : LkB W b v0 v1 v2 c0 c1 c2 o0 o1 o2) (x : Int) : LkB (W.setCell ⟨b + 4, 2, none⟩ (.int .i64 x)) b v0 v1 v2 c0 c1 c2 o0 o1 x := ⟨h.wish.other _ _ _ (by omega), h.res.other _ _ _ (by omega), h.has.other _ _ _ (by omega), h.out.set 2 x⟩

/-- What is told behind k sites. -/
def lkO (k j : Nat) (l : Int) : Int := if j < k then l else 0

theorem lkO_pos {k j : Nat} (l : Int) (h : j < k) : lkO k j l = l := if_pos h
theorem lkO_neg {k j : Nat} (l : Int) (h : ¬ j < k) : lkO k j l = 0 := if_neg h

/-- One place of what is told, as it is set, or not. -/
theorem lackV_some {ms : List Mb} {v : Int} {s : Int} {x : Nat} (hx : x = manyN ms s) (h : (x : Int) < v) : lackV ms v s = v - x := by
  unfold lackV
  rw [← hx, if_pos h]

theorem lackV_none {ms : List Mb} {v : Int} {s : Int} {x : Nat} (hx : x = manyN ms s) (h : ¬ (x : Int) < v) : lackV ms v s = 0 := by
  unfold lackV
  rw [← hx, if_neg h]

set_option maxRecDepth 20000 in
set_option maxHeartbeats 2000000 in
theorem pLacks_any (e : Int) (p : Option Addr) (n c : Nat) (ms : List Mb) (v0 v1 v2 : Int) (hv : (v0 ≤ 9223372036854775807 ∧ v1 ≤ 9223372036854775807) ∧ v2 ≤ 9223372036854775807) (w : World) (hr : RdM w p n c ms) (hn : n ≤ 5864062014805) :
    Calls Tryd.prog 10 #[.agg #[.int .i64 e, .slice p n c], .agg #[.int .i64 v0, .int .i64 v1, .int .i64 v2]] w fun r w' => r = .returned (.agg #[.int .i64 (lackV ms v0 0), .int .i64 (lackV ms v1 1), .int .i64 (lackV ms v2 2)]) ∧ Below w.heap.size w w' := by
  have hl := hr.len
  obtain ⟨⟨hv0, hv1⟩, hv2⟩ := hv
  have hN := LkB.new w (.cells #[.int .i64 e, .slice p n c] 28) v0 v1 v2
  have hb0 : Below w.heap.size w (((((w.alloc (.cells #[.int .i64 e, .slice p n c] 28)).alloc (.cells #[.int .i64 v0, .int .i64 v1, .int .i64 v2] 25)).alloc (.cells #[.int .i64 0, .int .i64 0, .int .i64 0] 25)).alloc (.cells #[.int .i64 0, .int .i64 0, .int .i64 0] 25)).alloc (.cells #[.int .i64 0, .int .i64 0, .int .i64 0] 25)) := (((((Below.refl _ _).alloc (Nat.le_refl _) _).alloc (by simp) _).alloc (by simp; omega) _).alloc (by simp; omega) _).alloc (by simp; omega) _
  generalize hw : w.heap.size = b at *
  have HL : Hid (ms.length = n) := hl
  clear hl
  obtain ⟨l0, HL0⟩ : ∃ x, Hid (lackV ms v0 0 = x) := ⟨_, rfl⟩
  obtain ⟨l1, HL1⟩ : ∃ x, Hid (lackV ms v1 1 = x) := ⟨_, rfl⟩
  obtain ⟨l2, HL2⟩ : ∃ x, Hid (lackV ms v2 2 = x) := ⟨_, rfl⟩
  rw [HL0.out, HL1.out, HL2.out]
  go_enter Tryd.func10, Tryd.ntmps10
  go_wp2_with fail
  go_loopw [14] (fun i wr => ∃ (k x0 x1 x2 : Nat), k ≤ n ∧ i = .int .i64 k ∧ Hid (x0 = manyN (ms.take k) 0 ∧ x1 = manyN (ms.take k) 1 ∧ x2 = manyN (ms.take k) 2) ∧ LkB wr b v0 v1 v2 x0 x1 x2 0 0 0 ∧ Below b w wr) (fun i _ => n - (intOf i).toNat)
  case atStart => exact ⟨0, 0, 0, 0, Nat.zero_le _, rfl, ⟨rfl, rfl, rfl⟩, hN, hb0⟩
  case round =>
    clear hN hb0
    obtain ⟨k, x0, x1, x2, hk, rfl, HM, hB, hb⟩ := hrel
    have hx : x0 ≤ k ∧ x1 ≤ k ∧ x2 ≤ k := by
      obtain ⟨m0, m1, m2⟩ := HM.out
      have e := List.length_take (i := k) (l := ms)
      have e0 := manyN_le (ms.take k) 0
      have e1 := manyN_le (ms.take k) 1
      have e2 := manyN_le (ms.take k) 2
      omega
    obtain ⟨hx0, hx1, hx2⟩ := hx
    by_cases h : k < n
    · obtain ⟨bb, o, rfl, hc⟩ := (hr.below (by rw [hw]; exact hb)).cells (by omega)
      obtain ⟨g1, g2, g3⟩ := hc k h
      have s0 := manyN_snoc (ms := ms) (k := k) (by rw [HL.out]; exact h) 0
      have s1 := manyN_snoc (ms := ms) (k := k) (by rw [HL.out]; exact h) 1
      have s2 := manyN_snoc (ms := ms) (k := k) (by rw [HL.out]; exact h) 2
      obtain ⟨m0, m1, m2⟩ := HM.out
      rw [← m0] at s0
      rw [← m1] at s1
      rw [← m2] at s2
      clear hc hr HM m0 m1 m2
      generalize ms.getD k .z0 = m at *
      obtain ⟨mn, msi, mf⟩ := m
      dsimp only at g1 g2 g3 s0 s1 s2
      have hba := below_alloc wr (.cells #[.int .i64 mn, .int .i64 msi, .bool mf] 45)
      have hbb := hb.trans (hba.mono (by have := hb.size; omega))
      have hB2 := hB.below hba
      obtain ⟨t0, t1, t2⟩ := hB2.has.at3
      obtain ⟨f0, f1, f2⟩ := hB2.has.free3
      have hbs := hb.size
      clear hB hba
      by_cases c0 : msi = 0
      · subst c0
        have HM : Hid (x0 + 1 = manyN (ms.take (k + 1)) 0 ∧ x1 = manyN (ms.take (k + 1)) 1 ∧ x2 = manyN (ms.take (k + 1)) 2) := by unfold Hid; rw [s0, s1, s2]; simp
        clear s0 s1 s2
        go_wp2_with fail
        go_roundw
        case rel => exact ⟨k + 1, x0 + 1, x1, x2, by omega, by go_num, HM, hB2.has0 _, hbb.setCell (by show b ≤ b + 3; omega) _⟩
        case measure => simp [intOf]; omega
      by_cases c1 : msi = 1
      · subst c1
        have HM : Hid (x0 = manyN (ms.take (k + 1)) 0 ∧ x1 + 1 = manyN (ms.take (k + 1)) 1 ∧ x2 = manyN (ms.take (k + 1)) 2) := by unfold Hid; rw [s0, s1, s2]; simp
        clear s0 s1 s2 c0
        go_wp2_with fail
        go_roundw
        case rel => exact ⟨k + 1, x0, x1 + 1, x2, by omega, by go_num, HM, hB2.has1 _, hbb.setCell (by show b ≤ b + 3; omega) _⟩
        case measure => simp [intOf]; omega
      by_cases c2 : msi = 2
      · subst c2
        have HM : Hid (x0 = manyN (ms.take (k + 1)) 0 ∧ x1 = manyN (ms.take (k + 1)) 1 ∧ x2 + 1 = manyN (ms.take (k + 1)) 2) := by unfold Hid; rw [s0, s1, s2]; simp
        clear s0 s1 s2 c0 c1
        go_wp2_with fail
        go_roundw
        case rel => exact ⟨k + 1, x0, x1, x2 + 1, by omega, by go_num, HM, hB2.has2 _, hbb.setCell (by show b ≤ b + 3; omega) _⟩
        case measure => simp [intOf]; omega
      have HM : Hid (x0 = manyN (ms.take (k + 1)) 0 ∧ x1 = manyN (ms.take (k + 1)) 1 ∧ x2 = manyN (ms.take (k + 1)) 2) := by unfold Hid; rw [s0, s1, s2]; simp [c0, c1, c2]
      clear s0 s1 s2
      rcases (show msi < 0 ∨ 3 ≤ msi by omega) with c3 | c3
      · clear c0 c1 c2
        go_wp2_with fail
        go_roundw
        case rel => exact ⟨k + 1, x0, x1, x2, by omega, by go_num, HM, hB2, hbb⟩
        case measure => simp [intOf]; omega
      · have c4 : 0 ≤ msi := by omega
        clear c0 c1 c2
        go_wp2_with fail
        go_roundw
        case rel => exact ⟨k + 1, x0, x1, x2, by omega, by go_num, HM, hB2, hbb⟩
        case measure => simp [intOf]; omega
    · obtain rfl : k = n := by omega
      have HM2 : Hid (x0 = manyN ms 0 ∧ x1 = manyN ms 1 ∧ x2 = manyN ms 2) := by
        have := HM.out
        rw [List.take_of_length_le (by rw [HL.out]; omega)] at this
        exact this
      have HO0 : Hid (l0 = if (x0 : Int) < v0 then v0 - x0 else 0) := by unfold Hid; rw [← HL0.out]; unfold lackV; rw [← HM2.out.1]
      have HO1 : Hid (l1 = if (x1 : Int) < v1 then v1 - x1 else 0) := by unfold Hid; rw [← HL1.out]; unfold lackV; rw [← HM2.out.2.1]
      have HO2 : Hid (l2 = if (x2 : Int) < v2 then v2 - x2 else 0) := by unfold Hid; rw [← HL2.out]; unfold lackV; rw [← HM2.out.2.2]
      clear HL0 HL1 HL2
      have hiW := fun k hk W => idxW v0 v1 v2 k hk W
      obtain ⟨y0, y1, y2⟩ := hB.wish.at3
      clear HM HM2 hr HL h hk
      obtain ⟨w5, hw5⟩ : ∃ x, x = wr := ⟨_, rfl⟩
      rw [← hw5] at hB hb y0 y1 y2 ⊢
      clear hw5
      go_wp2_with fail
      go_loopw [34] (fun i wr => ∃ k : Nat, k ≤ 3 ∧ i = .int .i64 k ∧ LkB wr b v0 v1 v2 x0 x1 x2 (lkO k 0 l0) (lkO k 1 l1) (lkO k 2 l2) ∧ Below b w wr) (fun i _ => 3 - (intOf i).toNat)
      case atStart => exact ⟨0, by omega, rfl, hB, hb⟩
      case round =>
        clear hB hb
        clear y0 y1 y2
        obtain ⟨k, hk, rfl, hB, hb⟩ := hrel
        obtain ⟨t0, t1, t2⟩ := hB.has.at3
        obtain ⟨o0, o1, o2⟩ := hB.out.at3
        obtain ⟨f0, f1, f2⟩ := hB.out.free3
        have hbs := hb.size
        by_cases h : k < 3
        · obtain rfl | rfl | rfl : k = 0 ∨ k = 1 ∨ k = 2 := by omega
          · have hi : ∀ W, (Instr.index 25 (.agg #[.int .i64 v0, .int .i64 v1, .int .i64 v2]) (.int .i64 0)).run Tryd.prog W = .ok (.int .i64 v0) W := fun W => hiW 0 (by decide) W
            by_cases hm : (x0 : Int) < v0
            · have HE : Hid (l0 = v0 - x0) := by unfold Hid; rw [HO0.out, if_pos hm]
              clear HO0 hiW
              go_wp2_with fail
              go_roundw
              case rel => exact ⟨1, by omega, rfl, by have := hB.out0 (v0 - x0); rw [← HE.out] at this; exact HE.out ▸ this, hb.setCell (by show b ≤ b + 4; omega) _⟩
              case measure => simp [intOf]
            · have HE : Hid (l0 = 0) := by unfold Hid; rw [HO0.out, if_neg hm]
              clear HO0 hiW
              go_wp2_with fail
              go_roundw
              case rel => exact ⟨1, by omega, rfl, by rw [HE.out]; exact hB, hb⟩
              case measure => simp [intOf]
          · have hi : ∀ W, (Instr.index 25 (.agg #[.int .i64 v0, .int .i64 v1, .int .i64 v2]) (.int .i64 1)).run Tryd.prog W = .ok (.int .i64 v1) W := fun W => hiW 1 (by decide) W
            by_cases hm : (x1 : Int) < v1
            · have HE : Hid (l1 = v1 - x1) := by unfold Hid; rw [HO1.out, if_pos hm]
              clear HO1 hiW
              go_wp2_with fail
              go_roundw
              case rel => exact ⟨2, by omega, rfl, by have := hB.out1 (v1 - x1); rw [← HE.out] at this; exact HE.out ▸ this, hb.setCell (by show b ≤ b + 4; omega) _⟩
              case measure => simp [intOf]
            · have HE : Hid (l1 = 0) := by unfold Hid; rw [HO1.out, if_neg hm]
              clear HO1 hiW
              go_wp2_with fail
              go_roundw
              case rel => exact ⟨2, by omega, rfl, by rw [HE.out]; exact hB, hb⟩
              case measure => simp [intOf]
          · have hi : ∀ W, (Instr.index 25 (.agg #[.int .i64 v0, .int .i64 v1, .int .i64 v2]) (.int .i64 2)).run Tryd.prog W = .ok (.int .i64 v2) W := fun W => hiW 2 (by decide) W
            by_cases hm : (x2 : Int) < v2
            · have HE : Hid (l2 = v2 - x2) := by unfold Hid; rw [HO2.out, if_pos hm]
              clear HO2 hiW
              go_wp2_with fail
              go_roundw
              case rel => exact ⟨3, by omega, rfl, by have := hB.out2 (v2 - x2); rw [← HE.out] at this; exact HE.out ▸ this, hb.setCell (by show b ≤ b + 4; omega) _⟩
              case measure => simp [intOf]
            · have HE : Hid (l2 = 0) := by unfold Hid; rw [HO2.out, if_neg hm]
              clear HO2 hiW
              go_wp2_with fail
              go_roundw
              case rel => exact ⟨3, by omega, rfl, by rw [HE.out]; exact hB, hb⟩
              case measure => simp [intOf]
        · obtain rfl : k = 3 := by omega
          have hB3 : LkB wr b v0 v1 v2 x0 x1 x2 l0 l1 l2 := hB
          obtain ⟨o0, o1, o2⟩ := hB3.out.at3
          obtain ⟨r0, r1, r2⟩ := hB3.res.at3
          obtain ⟨q0, q1, q2⟩ := hB3.res.free3
          clear hB HO0 HO1 HO2 hiW
          go_wp2_with fail
          exact bodyPost_ret (results_wish (p := 4) rfl _ _ (b + 2) #[.int .i64 l0, .int .i64 l1, .int .i64 l2] rfl rfl ((((show At 25 wr (b + 2) #[.int .i64 0, .int .i64 0, .int .i64 0] from hB3.res).set 0 (.int .i64 l0)).set 1 (.int .i64 l1)).set 2 (.int .i64 l2))) rfl ⟨rfl, ((hb.setCell (by show b ≤ b + 2; omega) _).setCell (by show b ≤ b + 2; omega) _).setCell (by show b ≤ b + 2; omega) _⟩

end Go.Proofs.YtigojnpjpagfjaaDoor.M
