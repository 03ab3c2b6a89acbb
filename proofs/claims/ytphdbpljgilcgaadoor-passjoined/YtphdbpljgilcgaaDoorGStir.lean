/-
  Own text: contracts of the stirring, the program's and the reference's.
-/
import Derived.Test.YtphdbpljgilcgaaDoorGRot
import Derived.BigQuiet
import Derived.WalkSmall
import Derived.Deep.RegionWith
namespace Go.Proofs.YtphdbpljgilcgaaDoor.M
open Go.ChangeShapes Go.WideShapes Go.ChangeAt Go.RowKit

theorem infoK : (Tryd.prog.info? 76).map (·.size) = some 4 := by kernel_rfl
theorem infoQ : (Tryd.prog.info? 75).map (·.size) = some 4 := by kernel_rfl
theorem infoB : (Tryd.prog.info? 22).map (·.size) = some 16 := by kernel_rfl

/-- Four words as a value's cells. -/
def qA (s : Nat × Nat × Nat × Nat) : Array Value := #[.int .u32 s.1, .int .u32 s.2.1, .int .u32 s.2.2.1, .int .u32 s.2.2.2]

theorem qA_nums (s : Nat × Nat × Nat × Nat) : qA s = nums .u32 (qI s) := rfl

theorem xor_eq {a b z : Nat} (ha : a < 4294967296) (hb : b < 4294967296) (h : z = a ^^^ b) : bits .xor .u32 (a : Int) (b : Int) = (z : Int) := by
  rw [u32_xor_nat a b ha hb, h]

theorem add_eq {a b z : Nat} (h : z = (a + b) % 4294967296) : IntKind.u32.wrap ((a : Int) + (b : Int)) = (z : Int) := by
  rw [wrap_add32, h]

/-- All that is reckoned in one stirring, by name. -/
structure St (a b c d a1 c1 t5 b1 t8 d1 t16 a2 c2 t7 b2 t13 d2 c3 : Nat) : Prop where
  hb : b < 4294967296
  hd : d < 4294967296
  ha1 : a1 < 4294967296
  hb1 : b1 < 4294967296
  hd1 : d1 < 4294967296
  hc2 : c2 < 4294967296
  ea1 : IntKind.u32.wrap ((a : Int) + (b : Int)) = (a1 : Int)
  ec1 : IntKind.u32.wrap ((c : Int) + (d : Int)) = (c1 : Int)
  et5 : turnN 5 b = t5
  eb1 : bits .xor .u32 (t5 : Int) (a1 : Int) = (b1 : Int)
  et8 : turnN 8 d = t8
  ed1 : bits .xor .u32 (t8 : Int) (c1 : Int) = (d1 : Int)
  et16 : turnN 16 a1 = t16
  ea2 : IntKind.u32.wrap ((t16 : Int) + (d1 : Int)) = (a2 : Int)
  ec2 : IntKind.u32.wrap ((c1 : Int) + (b1 : Int)) = (c2 : Int)
  et7 : turnN 7 b1 = t7
  eb2 : bits .xor .u32 (t7 : Int) (c2 : Int) = (b2 : Int)
  et13 : turnN 13 d1 = t13
  ed2 : bits .xor .u32 (t13 : Int) (a2 : Int) = (d2 : Int)
  ec3 : turnN 16 c2 = c3

theorem st_of (s : Nat × Nat × Nat × Nat) (hs : Qd s) : ∃ a1 c1 t5 b1 t8 d1 t16 a2 c2 t7 b2 t13 d2 c3, St s.1 s.2.1 s.2.2.1 s.2.2.2 a1 c1 t5 b1 t8 d1 t16 a2 c2 t7 b2 t13 d2 c3 ∧ stir1 s = (a2, b2, c3, d2) := by
  obtain ⟨ha, hb, hc, hd⟩ := hs
  have m : ∀ z : Nat, z % 4294967296 < 4294967296 := fun z => Nat.mod_lt _ (by decide)
  have hb1 := xor32 (turnN_lt hb 5) (m (s.1 + s.2.1))
  have hd1 := xor32 (turnN_lt hd 8) (m (s.2.2.1 + s.2.2.2))
  exact ⟨_, _, _, _, _, _, _, _, _, _, _, _, _, _, ⟨hb, hd, m _, hb1, hd1, m _, add_eq rfl, add_eq rfl, rfl, xor_eq (turnN_lt hb 5) (m _) rfl, rfl, xor_eq (turnN_lt hd 8) (m _) rfl, rfl, add_eq rfl, add_eq rfl, rfl,
    xor_eq (turnN_lt hb1 7) (m _) rfl, rfl, xor_eq (turnN_lt hd1 13) (m _) rfl, rfl⟩, rfl⟩

theorem two_new (w : World) (xs : List Int) (t : TypeId) (nq : Nat) :
    ArrI t .u32 (((w.alloc (.cells (nums .u32 xs) t)).alloc (.cells #[.int .u32 0, .int .u32 0, .int .u32 0, .int .u32 0] t)).drewN nq) (w.heap.size + 1) [0, 0, 0, 0] ∧
    Below w.heap.size w (((w.alloc (.cells (nums .u32 xs) t)).alloc (.cells #[.int .u32 0, .int .u32 0, .int .u32 0, .int .u32 0] t)).drewN nq) ∧
    (((w.alloc (.cells (nums .u32 xs) t)).alloc (.cells #[.int .u32 0, .int .u32 0, .int .u32 0, .int .u32 0] t)).drewN nq).heap.size = w.heap.size + 2 := by
  have h3 : (w.alloc (.cells (nums .u32 xs) t)).heap.size = w.heap.size + 1 := by simp
  have h1 : ArrI t .u32 ((w.alloc (.cells (nums .u32 xs) t)).alloc (.cells #[.int .u32 0, .int .u32 0, .int .u32 0, .int .u32 0] t)) _ [0, 0, 0, 0] := ArrI.new t .u32 _ [0, 0, 0, 0]
  rw [h3] at h1
  have hb : Below w.heap.size w ((w.alloc (.cells (nums .u32 xs) t)).alloc (.cells #[.int .u32 0, .int .u32 0, .int .u32 0, .int .u32 0] t)) := ((Below.refl _ _).alloc (Nat.le_refl _) _).alloc (by simp) _
  exact ⟨h1.below (below_drewN (Below.refl _ _) nq), below_drewN hb nq, by simp⟩

set_option maxRecDepth 20000 in
set_option maxHeartbeats 1000000 in
theorem stirred_any (s : Nat × Nat × Nat × Nat) (w : World) (hs : Qd s) :
    Calls Tryd.prog 40 #[.agg (qA s)] w fun r w' => r = .returned (.agg (qA (stirN 12 s))) ∧ Below w.heap.size w w' := by
  unfold qA
  go_enter Tryd.func40, Tryd.ntmps40
  go_wp2_with fail
  go_quiet (fail)
  obtain ⟨hZ, hb, hsz⟩ := two_new w (qI s) 76 nq
  rw [← qA_nums, qA] at hZ hb hsz
  generalize ((w.alloc _).alloc _).drewN nq = W0 at hZ hb hsz ⊢
  go_wp2_with fail
  go_loop [3, 4, 5, 6, 15] (fun a b c d i => ∃ k : Nat, k ≤ 12 ∧ i = .int .i64 k ∧ a = .int .u32 (stirN k s).1 ∧ b = .int .u32 (stirN k s).2.1 ∧ c = .int .u32 (stirN k s).2.2.1 ∧ d = .int .u32 (stirN k s).2.2.2) (fun _ _ _ _ i => 12 - (intOf i).toNat)
  case atStart => exact ⟨0, by omega, rfl, rfl, rfl, rfl, rfl⟩
  case round =>
    obtain ⟨k, hk, rfl, rfl, rfl, rfl, rfl⟩ := hrel
    have hq := stirN_lt hs k
    by_cases h : k < 12
    · obtain ⟨a1, c1, t5, b1, t8, d1, t16, a2, c2, t7, b2, t13, d2, c3, hst, hr⟩ := st_of (stirN k s) hq
      have HS : Hid (stirN (k + 1) s = (a2, b2, c3, d2)) := hr
      clear hr hq
      generalize (stirN k s).1 = a at hst
      generalize (stirN k s).2.1 = b at hst
      generalize (stirN k s).2.2.1 = c at hst
      generalize (stirN k s).2.2.2 = d at hst
      obtain ⟨hb, hd, ha1, hb1, hd1, hc2, ea1, ec1, et5, eb1, et8, ed1, et16, ea2, ec2, et7, eb2, et13, ed2, ec3⟩ := hst
      have r5 := fun W => rot_any b 5 W hb (by decide)
      have r8 := fun W => rot_any d 8 W hd (by decide)
      have r16 := fun W => rot_any a1 16 W ha1 (by decide)
      have r7 := fun W => rot_any b1 7 W hb1 (by decide)
      have r13 := fun W => rot_any d1 13 W hd1 (by decide)
      have r16' := fun W => rot_any c2 16 W hc2 (by decide)
      rw [et5] at r5
      rw [et8] at r8
      rw [et16] at r16
      rw [et7] at r7
      rw [et13] at r13
      rw [ec3] at r16'
      clear et5 et8 et16 et7 et13 ec3
      go_wp2_with fail
      refine (r5 _).mono ?_
      rintro e w1 ⟨rfl, rfl⟩
      go_wp2_with fail
      refine (r8 _).mono ?_
      rintro e w1 ⟨rfl, rfl⟩
      go_wp2_with fail
      refine (r16 _).mono ?_
      rintro e w1 ⟨rfl, rfl⟩
      go_wp2_with fail
      refine (r7 _).mono ?_
      rintro e w1 ⟨rfl, rfl⟩
      go_wp2_with fail
      refine (r13 _).mono ?_
      rintro e w1 ⟨rfl, rfl⟩
      go_wp2_with fail
      refine (r16' _).mono ?_
      rintro e w1 ⟨rfl, rfl⟩
      go_wp2_with fail
      go_round
      case rel => exact ⟨k + 1, by omega, by go_num, by rw [HS.out], by rw [HS.out], by rw [HS.out], by rw [HS.out]⟩
      case measure => simp [intOf]; omega
    · obtain rfl : k = 12 := by omega
      have hi := info_nums .u32 (qI (stirN 12 s)) infoK rfl
      have hz : (nums .u32 [0, 0, 0, 0]).size = (nums .u32 (qI (stirN 12 s))).size := rfl
      have hZ2 := hZ.setRow (qI (stirN 12 s))
      have hb2 := hb.trans (below_setRow W0 (w.heap.size + 1) (nums .u32 (qI (stirN 12 s))) (by omega))
      go_wp2_with (refine wpList_store_row rfl 76 _ _ rfl (w.heap.size + 1) (nums .u32 (qI (stirN 12 s))) rfl rfl _ _ hZ hi hz (nums_one _ _) ?_)
      exact bodyPost_ret (results_cell_row (p := 2) rfl _ _ (w.heap.size + 1) _ _ _ _ rfl hZ2 Tryd.underlying76 rfl hi) rfl ⟨rfl, hb2⟩

/-- The ways of a region meet again: here, and at no panic. -/
def Meet (a' : Act) (w' : World) : Exit → Act → World → Prop
  | .normal, a, w => a = a' ∧ w = w'
  | _, _, _ => False

theorem wp_meet {P : Program} {c : Code} {Q : Exit → Act → World → Prop} {a : Act} {w : World} {a' : Act} {w' : World} (h : c.wp P (Meet a' w') a w) (k : Q .normal a' w') : c.wp P Q a w :=
  Code.wp_mono (fun e a2 w2 hm => by
    cases e with
    | normal => obtain ⟨rfl, rfl⟩ := hm; exact k
    | _ => exact absurd hm id) h

theorem Meet.mk {a : Act} {w : World} : Meet a w .normal a w := ⟨rfl, rfl⟩

theorem ArrI.drew {t : TypeId} {k : IntKind} {w : World} {g : Nat} {xs : List Int} (h : ArrI t k w g xs) : ArrI t k w.drew g xs := h

theorem cells4 {t : TypeId} {w : World} {g a b c d : Nat} (h : ArrI t .u32 w g [(a : Int), (b : Int), (c : Int), (d : Int)]) :
    w.cell? ⟨g, 0, none⟩ = some (.int .u32 a) ∧ w.cell? ⟨g, 1, none⟩ = some (.int .u32 b) ∧ w.cell? ⟨g, 2, none⟩ = some (.int .u32 c) ∧ w.cell? ⟨g, 3, none⟩ = some (.int .u32 d) ∧
    w.frozen? ⟨g, 0, none⟩ = false ∧ w.frozen? ⟨g, 1, none⟩ = false ∧ w.frozen? ⟨g, 2, none⟩ = false ∧ w.frozen? ⟨g, 3, none⟩ = false :=
  ⟨h.cell (i := 0) (by simp), h.cell (i := 1) (by simp), h.cell (i := 2) (by simp), h.cell (i := 3) (by simp), h.free 0, h.free 1, h.free 2, h.free 3⟩

theorem arr4_0 {t : TypeId} {w : World} {g a b c d : Nat} (h : ArrI t .u32 w g [(a : Int), (b : Int), (c : Int), (d : Int)]) (x : Nat) : ArrI t .u32 (w.setCell ⟨g, 0, none⟩ (.int .u32 x)) g [(x : Int), (b : Int), (c : Int), (d : Int)] := h.set 0 x

theorem arr4_1 {t : TypeId} {w : World} {g a b c d : Nat} (h : ArrI t .u32 w g [(a : Int), (b : Int), (c : Int), (d : Int)]) (x : Nat) : ArrI t .u32 (w.setCell ⟨g, 1, none⟩ (.int .u32 x)) g [(a : Int), (x : Int), (c : Int), (d : Int)] := h.set 1 x

theorem arr4_2 {t : TypeId} {w : World} {g a b c d : Nat} (h : ArrI t .u32 w g [(a : Int), (b : Int), (c : Int), (d : Int)]) (x : Nat) : ArrI t .u32 (w.setCell ⟨g, 2, none⟩ (.int .u32 x)) g [(a : Int), (b : Int), (x : Int), (d : Int)] := h.set 2 x

theorem arr4_3 {t : TypeId} {w : World} {g a b c d : Nat} (h : ArrI t .u32 w g [(a : Int), (b : Int), (c : Int), (d : Int)]) (x : Nat) : ArrI t .u32 (w.setCell ⟨g, 3, none⟩ (.int .u32 x)) g [(a : Int), (b : Int), (c : Int), (x : Int)] := h.set 3 x

end Go.Proofs.YtphdbpljgilcgaaDoor.M
