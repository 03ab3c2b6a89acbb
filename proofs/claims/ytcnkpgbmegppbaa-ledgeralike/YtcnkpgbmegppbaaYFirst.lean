/-
  Own text: the contract of layout's First, of fewer than twenty members.
-/
import Derived.Test.YtcnkpgbmegppbaaYJoin
namespace Go.Proofs.Ytcnkpgbmegppbaa.M
open Go.ChangeShapes Go.WideShapes Go.ChangeAt Go.RowKit

theorem ixM_any (pr : Mb → Bool) : ∀ (l : List Mb) (k : Nat), decide (0 ≤ ixM pr k l) = l.any pr
  | [], _ => rfl
  | m :: l, k => by
    unfold ixM
    rw [List.any_cons]
    cases h : pr m with
    | true => simp
    | false => simp only [Bool.false_eq_true, if_false, Bool.false_or]; exact ixM_any pr l (k + 1)

set_option maxRecDepth 20000 in
theorem containsF_any (F : FuncId) (hcf : Cf F) (caps : Array Value) (pr : Mb → Bool) (p : Option Addr) (n c : Nat) (ms : List Mb) (w : World) (hr : RdM w p n c ms) (hn : n ≤ 5864062014805) (hA : Asks F caps w pr) :
    Calls Try.prog 62 #[.slice p n c, .func (.func F) #[] caps] w fun e w' => e = .returned (.bool (ms.any pr)) ∧ Below w.heap.size w w' := by
  have hI := indexF_any F hcf caps pr p n c ms w hr hn hA
  have HA : Hid (decide (0 ≤ ixM pr 0 ms) = ms.any pr) := ixM_any pr ms 0
  generalize ixM pr 0 ms = z at *
  generalize ms.any pr = r at *
  clear hA hr
  go_enter Try.func62, Try.ntmps62
  go_wp2_with fail
  refine hI.mono ?_
  rintro r w1 ⟨rfl, hb1⟩
  go_wp2_with fail
  go_ret
  exact ⟨ret_bool HA.out, hb1⟩

/-- The chain of the first epoch. -/
def firstR (ms : List Mb) : CR :=
  if ms.any (fun m => m.f) = true then .error 80 else
  if chk 1 (outS 0 (ms.length - 1) 1 ms) = false then .error 80 else .ok (1, outS 0 (ms.length - 1) 1 ms)

set_option maxRecDepth 20000 in
set_option maxHeartbeats 2000000 in
theorem First_few (p : Option Addr) (n c : Nat) (ms : List Mb) (w : World) (hr : RdM w p n c ms) (hn : n < 20) (h0 : 0 < n) :
    Calls Try.prog 41 #[.slice p n c] w fun r w' => ∃ v, r = .returned v ∧ Told w.heap.size w' v (firstR ms) ∧ Below w.heap.size w w' := by
  have hb0 : Below w.heap.size w (w.alloc (.cells #[.int .i64 0, .slice none 0 0] 42)) := (Below.refl _ _).alloc (Nat.le_refl _) _
  have hl := hr.len
  have r0 : (w.alloc (.cells #[.int .i64 0, .slice none 0 0] 42)).heap[w.heap.size]? = some (.cells #[.int .i64 0, .slice none 0 0] 42) := heap_alloc_new _ _
  have hr0 := hr.below hb0
  have hs0 : w.heap.size < (w.alloc (.cells #[.int .i64 0, .slice none 0 0] 42)).heap.size := by simp
  have hC := containsF_any _ cfFresh #[] _ p n c ms _ hr0 (by omega) (asksFresh _)
  have HR : Hid (firstR ms = if ms.any (fun m => m.f) = true then .error 80 else if chk 1 (outS 0 (ms.length - 1) 1 ms) = false then .error 80 else .ok (1, outS 0 (ms.length - 1) 1 ms)) := rfl
  generalize ms.any (fun m => m.f) = q at *
  generalize hw : w.heap.size = b at *
  go_enter Try.func41, Try.ntmps41
  go_wp2_with fail
  generalize (w.alloc (.cells #[.int .i64 0, .slice none 0 0] 42)) = w0 at *
  refine hC.mono ?_
  rintro r w1 ⟨rfl, hb1⟩
  have hB1 := hb0.trans (hb1.mono (by omega))
  have r1 := (hb1.block b hs0).trans r0
  have hr1 := hr0.below hb1
  have hs1 : b < w1.heap.size := Nat.lt_of_lt_of_le hs0 hb1.size
  clear hC hr hr0 hb0 r0
  have b0 := cell_row r1 (j := 0) (v := .int .i64 0) rfl
  have b1 := cell_row r1 (j := 1) (v := .slice none 0 0) rfl
  have f0 := frozen_of_row w1 b 0 _ _ r1
  have f1 := frozen_of_row w1 b 1 _ _ r1
  cases q with
  | true =>
    have HR2 : Hid (firstR ms = .error 80) := HR.out
    have e0 : ((w1.setCell ⟨b, 0, none⟩ (.int .i64 0)).setCell ⟨b, 1, none⟩ (.slice none 0 0)).cell? ⟨b, 0, none⟩ = some (.int .i64 0) := by rw [World.cell?_setCell_other (h := by simp), World.cell?_setCell_same (h := b0)]
    have e1 : ((w1.setCell ⟨b, 0, none⟩ (.int .i64 0)).setCell ⟨b, 1, none⟩ (.slice none 0 0)).cell? ⟨b, 1, none⟩ = some (.slice none 0 0) := by
      have e2 : (w1.setCell ⟨b, 0, none⟩ (.int .i64 0)).cell? ⟨b, 1, none⟩ = some (.slice none 0 0) := by rw [World.cell?_setCell_other (h := by simp)]; exact b1
      rw [World.cell?_setCell_same (h := e2)]
    have hbb := Gr.putB hB1 (Nat.le_refl b) (.int .i64 0) (.slice none 0 0)
    clear HR
    go_wp2_with fail
    exact bodyPost_ret (results_chain (p := 2) (u := 3) rfl _ _ b _ _ rfl e0 e1) rfl ⟨_, rfl, by rw [HR2.out]; rfl, hbb⟩
  | false =>
    have HR2 : Hid (firstR ms = if chk 1 (outS 0 (n - 1) 1 ms) = false then .error 80 else .ok (1, outS 0 (n - 1) 1 ms)) := by have := HR.out; rwa [if_neg (by decide), hl] at this
    have hCl := cloneM_any p n c ms w1 hr1 (by omega)
    clear HR
    go_wp2_with fail
    refine hCl.mono ?_
    rintro r w2 ⟨v2, rfl, hcp, hb2⟩
    obtain ⟨_, ho⟩ := hcp.resolve_left (fun h => by have := h.1; omega)
    obtain ⟨g, N, rfl, hg, hR2⟩ := Row.of_owns ho hl h0
    have hB2 := hB1.trans (hb2.mono (by omega))
    have hs2 : b < w2.heap.size := Nat.lt_of_lt_of_le hs1 hb2.size
    have r2 := (hb2.block b hs1).trans r1
    have hb3 : Below w2.heap.size w2 (w2.alloc (.cells #[.int .i64 1, .slice (some ⟨g, 0, none⟩) n N] 42)) := (Below.refl _ _).alloc (Nat.le_refl _) _
    have r3 := (hb3.block b hs2).trans r2
    have hR3 := hR2.up hb3
    have c3 : (w2.alloc (.cells #[.int .i64 1, .slice (some ⟨g, 0, none⟩) n N] 42)).heap[w2.heap.size]? = some (.cells #[.int .i64 1, .slice (some ⟨g, 0, none⟩) n N] 42) := heap_alloc_new _ _
    have hS := sort_few _ g N ms hR3 (by omega)
    rw [hl] at hS
    have hB3 := hB2.trans (hb3.mono (by omega))
    have hs3 : w2.heap.size < (w2.alloc (.cells #[.int .i64 1, .slice (some ⟨g, 0, none⟩) n N] 42)).heap.size := by simp
    have hgl := hR2.lt
    have hLl := outS_len 0 (n - 1) 1 ms
    generalize outS 0 (n - 1) 1 ms = L at *
    clear hCl hcp ho b0 b1 f0 f1 hR2 hR3 hb3
    go_wp2_with fail
    generalize (w2.alloc (.cells #[.int .i64 1, .slice (some ⟨g, 0, none⟩) n N] 42)) = w3 at *
    refine hS.mono ?_
    rintro r w4 ⟨rfl, hR4, hx4⟩
    have hbg : b < g := Nat.lt_of_lt_of_le hs1 hg
    have r4 := (hx4.block b (by omega) (by omega)).trans r3
    have c4 := (hx4.block w2.heap.size hs3 (by omega)).trans c3
    have hB4 := hB3.trans (hx4.below (B := b) (by omega) (by omega))
    have hrd := hR4.rd
    rw [hLl, hl] at hrd
    have hCk := Check_any 1 _ n N L w4 hrd (by omega)
    unfold chkV at hCk
    have x0 := cell_row c4 (j := 0) (v := .int .i64 1) rfl
    have x1 := cell_row c4 (j := 1) (v := .slice (some ⟨g, 0, none⟩) n N) rfl
    clear hS r3 c3
    go_wp2_with fail
    refine hCk.mono ?_
    rintro r w5 ⟨rfl, hb5⟩
    have hs4 : b < w4.heap.size := (Array.getElem?_eq_some_iff.1 r4).1
    have hs4c : w2.heap.size < w4.heap.size := (Array.getElem?_eq_some_iff.1 c4).1
    have hB5 := hB4.trans (hb5.mono (by omega))
    have r5 := (hb5.block b hs4).trans r4
    have c5 := (hb5.block w2.heap.size hs4c).trans c4
    have hr5 := hrd.below hb5
    have b0 := cell_row r5 (j := 0) (v := .int .i64 0) rfl
    have b1 := cell_row r5 (j := 1) (v := .slice none 0 0) rfl
    have f0 := frozen_of_row w5 b 0 _ _ r5
    have f1 := frozen_of_row w5 b 1 _ _ r5
    have z0 := cell_row c5 (j := 0) (v := .int .i64 1) rfl
    have z1 := cell_row c5 (j := 1) (v := .slice (some ⟨g, 0, none⟩) n N) rfl
    clear hCk x0 x1 hrd r4 c4
    have e0 : ∀ x y, ((w5.setCell ⟨b, 0, none⟩ x).setCell ⟨b, 1, none⟩ y).cell? ⟨b, 0, none⟩ = some x := fun x y => by rw [World.cell?_setCell_other (h := by simp), World.cell?_setCell_same (h := b0)]
    have e1 : ∀ x y, ((w5.setCell ⟨b, 0, none⟩ x).setCell ⟨b, 1, none⟩ y).cell? ⟨b, 1, none⟩ = some y := fun x y => by
      have e2 : (w5.setCell ⟨b, 0, none⟩ x).cell? ⟨b, 1, none⟩ = some (.slice none 0 0) := by rw [World.cell?_setCell_other (h := by simp)]; exact b1
      rw [World.cell?_setCell_same (h := e2)]
    have E0 : Hid _ := e0
    have E1 : Hid _ := e1
    clear e0 e1
    cases hk : chk 1 L with
    | false =>
      have HR3 : Hid (firstR ms = .error 80) := by unfold Hid; rw [HR2.out, hk]; rfl
      clear HR2 hk
      simp only [Bool.false_eq_true, if_false]
      go_wp2_with fail
      exact bodyPost_ret (results_chain (p := 2) (u := 3) rfl _ _ b _ _ rfl (E0.out _ _) (E1.out _ _)) rfl ⟨_, rfl, by rw [HR3.out]; rfl, Gr.putB hB5 (Nat.le_refl b) _ _⟩
    | true =>
      have HR3 : Hid (firstR ms = .ok (1, L)) := by unfold Hid; rw [HR2.out, hk]; rfl
      clear HR2 hk
      simp only [if_true]
      go_wp2_with fail
      exact bodyPost_ret (results_chain (p := 2) (u := 3) rfl _ _ b _ _ rfl (E0.out _ _) (E1.out _ _)) rfl ⟨_, rfl, by
        rw [HR3.out]
        refine ⟨some ⟨g, 0, none⟩, N, by rw [hLl, hl]; rfl, (fun a ha _ => by cases ha; show b ≤ g; omega), ?_⟩
        rw [hLl, hl]
        exact hr5.put _ _ (fun a ha _ => by cases ha; show g ≠ b; omega), Gr.putB hB5 (Nat.le_refl b) _ _⟩

end Go.Proofs.Ytcnkpgbmegppbaa.M
