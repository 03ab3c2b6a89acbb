/-
  Own text: the example of the statements over ways.
-/
import Derived.Test.YtdjeafaaclhpkaaZRefW
namespace Go.Proofs.Ytdjeafaaclhpkaa.M
open Go.ChangeShapes Go.WideShapes Go.ChangeAt Go.RowKit

theorem rdm_two (w : World) (x y : Mb) : RdM (w.alloc (.cells #[.int .i64 x.n, .int .i64 x.s, .bool x.f, .int .i64 y.n, .int .i64 y.s, .bool y.f] 36)) (some ⟨w.heap.size, 0, none⟩) 2 2 [x, y] := by
  refine ⟨rfl, Nat.le_refl _, (fun e => by cases e), fun _ => ⟨_, 0, rfl, fun i hi => ?_⟩⟩
  match i, hi with
  | 0, _ => exact ⟨by simp, by simp, by simp⟩
  | 1, _ => exact ⟨by simp, by simp, by simp⟩

theorem Rd.two (k : IntKind) (w : World) (e : TypeId) (x y : Int) : Rd k (w.alloc (.cells #[.int k x, .int k y] e)) (some ⟨w.heap.size, 0, none⟩) 2 2 [x, y] := by
  refine ⟨rfl, Nat.le_refl _, (fun h => by cases h), fun _ => ⟨w.heap.size, 0, rfl, fun i hi => ?_⟩⟩
  match i, hi with
  | 0, _ => simp
  | 1, _ => simp

theorem RdM.moved {w : World} {p q : Option Addr} {n c : Nat} {ms : List Mb} (e : p = q) (h : RdM w p n c ms) : RdM w q n c ms := e ▸ h

theorem rd_set {k : IntKind} {w : World} {q : Option Addr} {n d : Nat} {xs : List Int} {g : Nat} (h : Rd k w q n d xs) (hne : ∀ a, q = some a → a.block ≠ g) (i : Nat) (v : Value) : Rd k (w.setCell ⟨g, i, none⟩ v) q n d xs := by
  refine ⟨h.len, h.cap, h.nil, fun hn => ?_⟩
  obtain ⟨b, o, rfl, hc⟩ := h.cells hn
  refine ⟨b, o, rfl, fun j hj => ?_⟩
  have hb := hne _ rfl
  rw [← hc j hj]
  unfold World.cell?
  rw [Below.heap_setCell _ _ _ _ (by simpa using hb)]

theorem aw_thr : 2 * thr [0, 5, 9, 5, 0, 9, 9, 9, 0] 0 [⟨0, 0, false⟩, ⟨1, 1, false⟩] = 10 := by decide +kernel
theorem aw_rd : rdV [0, 5, 9, 5, 0, 9, 9, 9, 0] 1 (stN [⟨0, 0, false⟩, ⟨1, 1, false⟩] 1) 0 false (stN [⟨0, 0, false⟩, ⟨1, 1, false⟩] (List.length (α := Mb) [⟨0, 0, false⟩, ⟨1, 1, false⟩] - 1)) = 10 := by decide +kernel
theorem aw_near : (srt (nrC [0, 5, 9, 5, 0, 9, 9, 9, 0] 1) [⟨0, 0, false⟩, ⟨1, 1, false⟩]).map (·.n) = [1, 0] := by decide +kernel
theorem aw_chk : chk 1 [⟨0, 0, false⟩, ⟨1, 1, false⟩] = true := by decide +kernel
theorem aw_ok : okW [0, 5, 9, 5, 0, 9, 9, 9, 0] = true := by decide +kernel
theorem aw_plc : plc 1 [⟨0, 0, false⟩, ⟨1, 1, false⟩] 1 = ((1 : Nat) : Int) := by decide +kernel
theorem aw_bad : okW [0, 4, 9, 5, 0, 9, 9, 9, 0] = false := by decide +kernel

set_option maxRecDepth 20000 in
set_option maxHeartbeats 2000000 in
theorem awake_any (w : World) : Calls Try.prog 13 #[] w fun e w' => e = .returned (.bool true) ∧ Below w.heap.size w w' := by
  have hb0 : Below w.heap.size w (((w.alloc (.cells #[.int .i64 0, .int .i64 5, .int .i64 9, .int .i64 5, .int .i64 0, .int .i64 9, .int .i64 9, .int .i64 9, .int .i64 0] 24)).alloc (.cells #[.int .i64 0, .int .i64 0, .bool false, .int .i64 1, .int .i64 1, .bool false] 36)).alloc (.cells #[.int .i64 1, (.slice (some ⟨w.heap.size + 1, 0, none⟩) 2 2)] 33)) := (((Below.refl _ _).alloc (Nat.le_refl _) _).alloc (by simp) _).alloc (by simp; omega) _
  have hA : ArrI 24 .i64 (((w.alloc (.cells #[.int .i64 0, .int .i64 5, .int .i64 9, .int .i64 5, .int .i64 0, .int .i64 9, .int .i64 9, .int .i64 9, .int .i64 0] 24)).alloc (.cells #[.int .i64 0, .int .i64 0, .bool false, .int .i64 1, .int .i64 1, .bool false] 36)).alloc (.cells #[.int .i64 1, (.slice (some ⟨w.heap.size + 1, 0, none⟩) 2 2)] 33)) w.heap.size [0, 5, 9, 5, 0, 9, 9, 9, 0] := ((nine_cells (t := 24) w 0 5 9 5 0 9 9 9 0).alloc _).alloc _
  have hK : At 33 (((w.alloc (.cells #[.int .i64 0, .int .i64 5, .int .i64 9, .int .i64 5, .int .i64 0, .int .i64 9, .int .i64 9, .int .i64 9, .int .i64 0] 24)).alloc (.cells #[.int .i64 0, .int .i64 0, .bool false, .int .i64 1, .int .i64 1, .bool false] 36)).alloc (.cells #[.int .i64 1, (.slice (some ⟨w.heap.size + 1, 0, none⟩) 2 2)] 33)) (w.heap.size + 1 + 1) #[.int .i64 1, (.slice (some ⟨w.heap.size + 1, 0, none⟩) 2 2)] := (At.new 33 ((w.alloc (.cells #[.int .i64 0, .int .i64 5, .int .i64 9, .int .i64 5, .int .i64 0, .int .i64 9, .int .i64 9, .int .i64 9, .int .i64 0] 24)).alloc (.cells #[.int .i64 0, .int .i64 0, .bool false, .int .i64 1, .int .i64 1, .bool false] 36)) _).moved (by simp)
  have hr : RdM (((w.alloc (.cells #[.int .i64 0, .int .i64 5, .int .i64 9, .int .i64 5, .int .i64 0, .int .i64 9, .int .i64 9, .int .i64 9, .int .i64 0] 24)).alloc (.cells #[.int .i64 0, .int .i64 0, .bool false, .int .i64 1, .int .i64 1, .bool false] 36)).alloc (.cells #[.int .i64 1, (.slice (some ⟨w.heap.size + 1, 0, none⟩) 2 2)] 33)) (some ⟨w.heap.size + 1, 0, none⟩) 2 2 [⟨0, 0, false⟩, ⟨1, 1, false⟩] := ((rdm_two (w.alloc (.cells #[.int .i64 0, .int .i64 5, .int .i64 9, .int .i64 5, .int .i64 0, .int .i64 9, .int .i64 9, .int .i64 9, .int .i64 0] 24)) ⟨0, 0, false⟩ ⟨1, 1, false⟩).below (below_alloc _ _)).moved (by simp)
  have h1 := Write_ok 1 (some ⟨w.heap.size + 1, 0, none⟩) 2 2 [⟨0, 0, false⟩, ⟨1, 1, false⟩] 0 5 9 5 0 9 9 9 0 0 (by decide) aw_chk aw_ok _ hr (by decide)
  rw [aw_thr] at h1
  go_enter Try.func13, Try.ntmps13
  go_wp2_with fail
  refine h1.mono ?_
  rintro r w1 ⟨rfl, hb1⟩
  replace hA := hA.below hb1
  replace hK := hK.below hb1
  replace hr := hr.below hb1
  replace hb0 := hb0.trans (hb1.mono hb0.size)
  clear h1 hb1
  obtain ⟨c0, c1, c2, c3, c4, c5, c6, c7, c8⟩ := nine hA
  obtain ⟨k0, k1⟩ := hK.two
  have h2 := Read_ok 1 (some ⟨w.heap.size + 1, 0, none⟩) 2 2 [⟨0, 0, false⟩, ⟨1, 1, false⟩] 0 5 9 5 0 9 9 9 0 1 (by decide) aw_chk aw_ok 1 1 aw_plc (by decide) false 0 (by decide) _ hr (by decide)
  rw [aw_rd] at h2
  go_wp2_with fail
  refine h2.mono ?_
  rintro r w2 ⟨rfl, hb2⟩
  replace hA := hA.below hb2
  replace hK := hK.below hb2
  replace hr := hr.below hb2
  replace hb0 := hb0.trans (hb2.mono hb0.size)
  clear h2 hb2 c0 c1 c2 c3 c4 c5 c6 c7 c8 k0 k1
  obtain ⟨c0, c1, c2, c3, c4, c5, c6, c7, c8⟩ := nine hA
  obtain ⟨k0, k1⟩ := hK.two
  have h3 := Near_ok 1 (some ⟨w.heap.size + 1, 0, none⟩) 2 2 [⟨0, 0, false⟩, ⟨1, 1, false⟩] 0 5 9 5 0 9 9 9 0 1 (by decide) aw_chk aw_ok _ hr (by decide)
  rw [aw_near] at h3
  go_wp2_with fail
  refine h3.mono ?_
  rintro r w3 ⟨q3, d3, rfl, hr3, hfar, hb3⟩
  have hwlt : w.heap.size < w2.heap.size := hA.lt
  replace hA := hA.below hb3
  replace hb0 := hb0.trans (hb3.mono hb0.size)
  clear h3 hb3 c0 c1 c2 c3 c4 c5 c6 c7 c8 k0 k1 hK hr
  have c1 := hA.cell (i := 1) (by simp)
  have f1 := hA.free 1
  simp only [List.getD_eq_getElem?_getD, List.getElem?_cons_succ, List.getElem?_cons_zero, Option.getD_some] at c1
  have hA4 : ArrI 24 .i64 (w3.setCell ⟨w.heap.size, 1, none⟩ (.int .i64 4)) w.heap.size [0, 4, 9, 5, 0, 9, 9, 9, 0] := hA.set 1 4
  have hx := Ex.setC (g := w.heap.size) (w := w3) [.int .i64 4] 1 w3 (Ex.refl _ _)
  have hb4 : Below w.heap.size w (w3.setCell ⟨w.heap.size, 1, none⟩ (.int .i64 4)) := hb0.trans (hx.below (Nat.le_refl _) hA.lt)
  have hr4 : Rd .i64 (w3.setCell ⟨w.heap.size, 1, none⟩ (.int .i64 4)) q3 2 d3 [1, 0] := rd_set hr3 (fun a ha => by have := hfar a ha; omega) _ _
  generalize hw4 : w3.setCell ⟨w.heap.size, 1, none⟩ (.int .i64 4) = w4 at hA4 hb4 hr4
  have hba := below_alloc w4 (.cells #[.int .i64 1, .int .i64 0] 3)
  have hA5 := hA4.below hba
  have hr5 := hr4.below hba
  have ho5 := Rd.two .i64 w4 3 1 0
  have hE := equalI_same _ _ 2 _ _ [1, 0] _ hr5 ho5 (by decide)
  have hb5 := hb4.trans (hba.mono hb4.size)
  clear hA hb0 hx hA4 hb4 hr4 hr5 ho5 hba
  go_wp2_with fail
  refine hE.mono ?_
  rintro r w6 ⟨rfl, hb6⟩
  replace hA5 := hA5.below hb6
  replace hb5 := hb5.trans (hb6.mono hb5.size)
  clear hE hb6 c1 f1 hw4
  obtain ⟨c0, c1, c2, c3, c4, c5, c6, c7, c8⟩ := nine hA5
  have hB := Way_any 0 4 9 5 0 9 9 9 0 w6
  rw [aw_bad] at hB
  unfold wayV at hB
  simp only [Bool.false_eq_true, if_false] at hB
  go_wp2_with fail
  refine hB.mono ?_
  rintro r w7 ⟨rfl, hb7⟩
  go_wp2_with fail
  go_ret
  exact ⟨rfl, hb5.trans (hb7.mono hb5.size)⟩

end Go.Proofs.Ytdjeafaaclhpkaa.M
