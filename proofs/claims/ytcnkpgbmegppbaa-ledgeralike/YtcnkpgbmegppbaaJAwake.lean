/-
  Own text: the example is as the document says.
-/
import Derived.Test.YtcnkpgbmegppbaaJAwP
import Derived.Test.YtcnkpgbmegppbaaJPut
import Derived.Test.YtcnkpgbmegppbaaYSame2
namespace Go.Proofs.Ytcnkpgbmegppbaa.M
open Go.ChangeShapes Go.WideShapes Go.ChangeAt Go.RowKit

theorem Rd.ex2 {w w' : World} {g r : Nat} {p : Option Addr} {n c : Nat} {xs : List Int} (h : Rd .u8 w p n c xs) (hx : Ex2 g r w w') (hf : ∀ a, p = some a → 0 < n → a.block ≠ g ∧ a.block ≠ r) : Rd .u8 w' p n c xs := by
  refine ⟨h.len, h.cap, h.nil, fun h0 => ?_⟩
  obtain ⟨b, o, hp, hc⟩ := h.cells h0
  obtain ⟨f1, f2⟩ := hf _ hp h0
  refine ⟨b, o, hp, fun i hi => ?_⟩
  rw [World.cell?_of_block (a := ⟨b, o + i, none⟩) (hx.block b (World.block_lt_of_cell? _ _ (hc 0 h0)) f1 f2)]
  exact hc i hi

theorem Ow.far {k : IntKind} {e : TypeId} {w : World} {B : Nat} {p : Option Addr} {n c : Nat} {xs : List Int} (h : Ow k e w B p n c xs) : ∀ a, p = some a → 0 < n → B ≤ a.block := by
  intro a ha h0
  rcases h.own with ⟨h1, _⟩ | h1
  · omega
  · exact (World.ownsRow.lt h1 a.block (by rw [ha]; rfl)).1

theorem Rd.lt8 {w : World} {p : Option Addr} {n c : Nat} {xs : List Int} (h : Rd .u8 w p n c xs) : ∀ a, p = some a → 0 < n → a.block < w.heap.size := by
  intro a ha h0
  obtain ⟨b, o, hp, hc⟩ := h.cells h0
  rw [ha] at hp
  cases hp
  exact World.block_lt_of_cell? _ _ (hc 0 h0)

theorem LP.lt {w : World} {g r : Nat} {s : PL} (h : LP w g r s) : g < w.heap.size ∧ r < w.heap.size := by
  obtain ⟨bc, x, H, h1, _⟩ := h
  exact ⟨h1.blk.lt, h1.lr⟩

/-- Chain, in plain words. -/
theorem Chain_any (g r : Nat) (s : PL) (w : World) (h : LP w g r s) (hn : s.ms.length ≤ 6) :
    Calls Try.prog 20 #[.pointer (some ⟨g, 0, none⟩)] w fun o w' => ∃ v, o = .returned v ∧ ∃ q d, v = .agg #[.int .i64 s.e, .slice q s.ms.length d] ∧ RdM w' q s.ms.length d s.ms ∧ (∀ a, q = some a → 0 < s.ms.length → w.heap.size ≤ a.block) ∧ Below w.heap.size w w' := by
  obtain ⟨bc, x, H, hL, hx, hH⟩ := h
  have hl := hL.now.1.len
  have e1 : x.e = s.e := congrArg Prod.fst hx
  have e2 : x.ms = s.ms := congrArg Prod.snd hx
  rw [e2] at hl
  refine (Chain_yes g r bc x s.at_ H w hL (by omega)).mono ?_
  rintro o w' ⟨q, d, rfl, h1, h2, h3⟩
  rw [e1, ← hl]
  rw [← hl, e2] at h2
  rw [← hl] at h1
  exact ⟨_, rfl, q, d, rfl, h2, h1, h3⟩

theorem At_any (g r : Nat) (s : PL) (w : World) (h : LP w g r s) :
    Calls Try.prog 28 #[.pointer (some ⟨g, 0, none⟩)] w fun o w' => o = .returned (.int .i64 s.at_) ∧ w' = w := by
  obtain ⟨bc, x, H, hL, hx, hH⟩ := h
  exact At_yes g r bc x s.at_ H w hL

set_option maxRecDepth 20000 in
set_option maxHeartbeats 4000000 in
theorem awake_any (w : World) :
    Calls Try.prog 8 #[] w fun o w' => o = .returned (.bool true) ∧ Below w.heap.size w w' := by
  have hA := At.new 48 w #[.int .i64 0, .int .i64 0, .bool false, .int .i64 1, .int .i64 0, .bool false]
  have hba := below_alloc w (.cells #[.int .i64 0, .int .i64 0, .bool false, .int .i64 1, .int .i64 0, .bool false] 48)
  have hr : RdM (w.alloc (.cells #[.int .i64 0, .int .i64 0, .bool false, .int .i64 1, .int .i64 0, .bool false] 48)) (some ⟨w.heap.size, 0, none⟩) 2 2 aw0 := by
    refine ⟨rfl, Nat.le_refl _, (fun h => by cases h), fun _ => ⟨w.heap.size, 0, rfl, fun i hi => ?_⟩⟩
    match i, hi with
    | 0, _ => exact ⟨hA.cell 0, hA.cell 1, hA.cell 2⟩
    | 1, _ => exact ⟨hA.cell 3, hA.cell 4, hA.cell 5⟩
  have hF : FirstIs 2 aw0 (.ok (1, aw0)) := fun p c w hr => by have := First_few p 2 c aw0 w hr (by decide) (by decide); rw [aw_first] at this; exact this
  have g1 := New_ok _ 2 2 aw0 _ hr aw0 hF
  have hsz := hba.size
  clear hr hF hA
  go_enter Try.func8, Try.ntmps8
  go_wp2_with fail
  refine g1.mono ?_
  rintro o w1 ⟨v, rfl, g, r, rfl, hL1, hg, hr, hb1⟩
  have hL1' : LP w1 g r aw1 := hL1
  have hB1 := hba.trans (hb1.mono hba.size)
  have hg0 : w.heap.size ≤ g := Nat.le_trans hsz hg
  have hr0 : w.heap.size ≤ r := Nat.le_trans hsz hr
  have g2 := lPut_ok 1 0 0 1 w1 (by rfl)
  rw [aw_put] at g2
  clear g1 hb1 hba hL1 hg hr hsz
  go_wp2_with fail
  refine g2.mono ?_
  rintro o w2 ⟨v, rfl, p, c, rfl, ho, hb2⟩
  dsimp only [List.length_cons, List.length_nil] at ho ⊢
  have hL2 := hL1'.below hb2
  have hB2 := hB1.trans (hb2.mono hB1.size)
  have hlt := hL1'.lt
  have hfar := ho.far
  have hrd := ho.rd
  have g3 := Apply_any g r aw1 w2 hL2 aw1_ok 1 p 4 c [1, 0, 0, 1] hrd (by intro x hx; simp at hx; omega) (by decide)
  rw [aw_app1] at g3
  dsimp only at g3
  have f1 : ∀ a, p = some a → 0 < 4 → a.block ≠ g ∧ a.block ≠ r := fun a ha h0 => by have := hfar a ha h0; exact ⟨by omega, by omega⟩
  clear g2 ho hb2 hL1' hB1
  go_wp2_with fail
  refine g3.mono ?_
  rintro o w3 ⟨rfl, hAf, hE3⟩
  obtain ⟨r3, hr3, hL3⟩ := hAf
  have hB3 := hB2.trans (hE3.below hg0 hr0 hB2.size)
  have hrd3 := hrd.ex2 hE3 f1
  have f3 : ∀ a, p = some a → 0 < 4 → a.block ≠ g ∧ a.block ≠ r3 := fun a ha h0 => by have h1 := f1 a ha h0; have h2 := hrd.lt8 a ha h0; exact ⟨h1.1, hr3.elim (fun h => by rw [h]; exact h1.2) (fun h => by omega)⟩
  have hr30 : w.heap.size ≤ r3 := hr3.elim (fun h => by rw [h]; exact hr0) (fun h => Nat.le_trans hB2.size h)
  have g4 := Chain_any g r3 aw2 w3 hL3 (by decide)
  clear g3 hL2 hE3 hrd hB2 hfar f1 hlt hr3 hr0
  go_wp2_with fail
  refine g4.mono ?_
  rintro o w4 ⟨v, rfl, q, d, rfl, hrc, _, hb4⟩
  have hr4 : RdM w4 q 1 d [⟨1, 0, false⟩] := hrc
  have hL4 := hL3.below hb4
  have hB4 := hB3.trans (hb4.mono hB3.size)
  have hrd4 := hrd3.below hb4
  have hba := below_alloc w4 (.cells #[.int .i64 1, .int .i64 0, .bool false] 48)
  have hA := At.new 48 w4 #[.int .i64 1, .int .i64 0, .bool false]
  have hr5 : RdM (w4.alloc (.cells #[.int .i64 1, .int .i64 0, .bool false] 48)) (some ⟨w4.heap.size, 0, none⟩) 1 1 [⟨1, 0, false⟩] := by
    refine ⟨rfl, Nat.le_refl _, (fun h => by cases h), fun _ => ⟨w4.heap.size, 0, rfl, fun i hi => ?_⟩⟩
    match i, hi with
    | 0, _ => exact ⟨hA.cell 0, hA.cell 1, hA.cell 2⟩
  have g5 := Same_any 2 2 q (some ⟨w4.heap.size, 0, none⟩) 1 1 d 1 [⟨1, 0, false⟩] [⟨1, 0, false⟩] _ (hr4.below hba) hr5 (by decide) (by decide)
  have e5 : ((2 : Int) == 2 && eqMs [⟨1, 0, false⟩] [⟨1, 0, false⟩]) = true := by simp [eqMs_self]
  rw [e5] at g5
  have hL5 := hL4.below hba
  have hB5 := hB4.trans (hba.mono hB4.size)
  have hrd5 := hrd4.below hba
  clear g4 hL3 hrd3 hrc hr4 hb4 hL4 hB3 hB4 hrd4 hba hA hr5 e5
  dsimp only [aw2, List.length_cons, List.length_nil]
  go_wp2_with fail
  refine g5.mono ?_
  rintro o w6 ⟨rfl, hb6⟩
  have hL6 := hL5.below hb6
  have hB6 := hB5.trans (hb6.mono hB5.size)
  have hrd6 := hrd5.below hb6
  have g6 := Apply_any g r3 aw2 w6 hL6 aw2_ok 2 p 4 c [1, 0, 0, 1] hrd6 (by intro x hx; simp at hx; omega) (by decide)
  rw [aw_app2] at g6
  dsimp only at g6
  clear g5 hL5 hB5 hrd5 hb6
  go_wp2_with fail
  refine g6.mono ?_
  rintro o w7 ⟨rfl, hAf, hE7⟩
  obtain ⟨r7, hr7, hL7⟩ := hAf
  have hB7 := hB6.trans (hE7.below hg0 hr30 hB6.size)
  have hr70 : w.heap.size ≤ r7 := hr7.elim (fun h => by rw [h]; exact hr30) (fun h => Nat.le_trans hB6.size h)
  have g7 := At_any g r7 aw3 w7 hL7
  have g8 := Apply_any g r7 aw3 w7 hL7 aw3_ok 2 none 0 0 [] (Rd.empty _ _ _ _ (fun _ => rfl)) By.nil (by decide)
  rw [aw_app3] at g8
  dsimp only at g8
  clear g6 hL6 hE7 hB6 hrd6 f3 hr7 hr30
  go_wp2_with fail
  refine g7.mono ?_
  rintro o w8 ⟨rfl, hw⟩
  subst w8
  dsimp only [aw3]
  go_wp2_with fail
  refine g8.mono ?_
  rintro o w9 ⟨rfl, hAf, hE9⟩
  have hB9 := hB7.trans (hE9.below hg0 hr70 hB7.size)
  clear g7 g8
  go_wp2_with fail
  go_ret
  exact ⟨rfl, hB9⟩

end Go.Proofs.Ytcnkpgbmegppbaa.M
