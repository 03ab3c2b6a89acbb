/-
  Own text: contracts of Arm and Clear.
-/
import Derived.Test.YtpjhadaiodnnaaaEArm
namespace Go.Proofs.Ytpjhadaiodnnaaa.M
open Go.ChangeShapes Go.WideShapes Go.ChangeAt Go.RowKit

set_option maxRecDepth 20000 in
theorem Arm_ok (w : World) (B : Nat) (own : Nat → Nat) (a g : Nat) (d : Dk) (m : PD) (h : DA w B own a g d m) (hr : 0 < m.room) (hw : m.down = false) (n : Nat) (hn : 1 ≤ n) (q : Option Addr) (l c : Nat) (ks : List Int) (hy : Rd .i64 w q l c ks) (hl : l ≤ 1099511627776) :
    Calls Try.prog 19 #[.pointer (some ⟨g, 0, none⟩), .int .i64 n, .slice q l c] w fun e w' => e = .returned (.int .i64 0) ∧ ∃ d2, DA w' B own a g d2 { m with left := n, keep := ks } ∧ Ch (fun k => k = g) w w' := by
  have hR := ready_any w g d h.dc (by rw [h.room]; exact hr)
  rw [h.down, hw] at hR
  have hb1 : Below w.heap.size w (w.alloc (.cells #[.int .i64 n, .slice q l c] 83)) := (Below.refl _ _).alloc (Nat.le_refl _) _
  have hC := fclone_any (w.alloc (.cells #[.int .i64 n, .slice q l c] 83)) w.heap.size n q l c ks (by simp) (by simp) (hy.below' hb1) hl
  have hlt := h.dc.lt
  have hcr := h.dc.room
  go_enter Try.func19, Try.ntmps19
  go_wp2_with fail
  refine hR.mono ?_
  rintro e w1 ⟨rfl, rfl⟩
  go_wp2_with fail
  refine hC.mono ?_
  rintro e w2 ⟨p', c', rfl, hrd, hb2, hfr⟩
  have hbt := hb1.trans (hb2.mono (by simp))
  have h2 := h.below hbt
  have hc26 := h2.dc.left
  have hf26 := h2.dc.free 26
  have hf27 := h2.dc.free 27
  have hd1 := h2.dc.setLeft n
  have hc27 := hd1.keep
  have hd2 := hd1.setKeep p' l c'
  have hc2 := Ch.cells2 w2 g 26 27 (.int .i64 n) (.slice p' l c')
  have hfin : DA ((w2.setCell ⟨g, 26, none⟩ (.int .i64 n)).setCell ⟨g, 27, none⟩ (.slice p' l c')) B own a g _ { m with left := n, keep := ks } :=
    DA.mend hc2 hd2 h2.room h2.down rfl h2.cl h2.fm hrd h2.og (fun x e => ⟨h.fr _ (Nat.le_trans hb1.size (hfr x e).1), (by have := Nat.le_trans hb1.size (hfr x e).1; omega), (hfr x e).2⟩) h2.bg h2.fr
  clear hC hR hd1 hd2 h2 hrd hfr h hb1 hb2 hy
  generalize d.left = dl at *
  generalize d.kp = dp at *
  generalize d.kn = dn at *
  generalize d.kc = dc at *
  go_wp2_with fail
  go_ret
  exact ⟨rfl, _, hfin, (Ch.of_below hbt _).trans hc2⟩

set_option maxRecDepth 20000 in
theorem Clear_ok (w : World) (B : Nat) (own : Nat → Nat) (a g : Nat) (d : Dk) (m : PD) (h : DA w B own a g d m) (hr : 0 < m.room) (hw : m.down = false) (hm : m.few) (i : Nat) (hi : i < 8) :
    Calls Try.prog 84 #[.pointer (some ⟨g, 0, none⟩), .int .i64 i] w fun e w' => e = .returned (.int .i64 (goneE (m.gone 1))) ∧ ∃ own2 d2, DA w' B own2 a g d2 (m.act 1 fun _ => upP m.f i ⟨[], (m.f i).lasts, true⟩) ∧ (∀ k, k < w.heap.size → own2 k = own k) ∧ Ch (fun k => k = g ∨ own k = mark a i) w w' := by
  have hF := file_ok w g d h.dc (by rw [h.room]; exact hr) (h.down.trans hw) i hi
  have hA1 := h.alloc (.cells #[.pointer (some ⟨g, 2 + i * 3, none⟩)] 93)
  have hbx : (w.alloc (.cells #[.pointer (some ⟨g, 2 + i * 3, none⟩)] 93)).cell? ⟨w.heap.size, 0, none⟩ = some (.pointer (some ⟨g, 2 + i * 3, none⟩)) := by simp
  have hne : w.heap.size ≠ g := Nat.ne_of_gt h.dc.lt
  have hsz : w.heap.size < (w.alloc (.cells #[.pointer (some ⟨g, 2 + i * 3, none⟩)] 93)).heap.size := by simp
  have hc0 : Ch (fun k => k = g ∨ own k = mark a i) w (w.alloc (.cells #[.pointer (some ⟨g, 2 + i * 3, none⟩)] 93)) := Ch.of_below ((Below.refl _ _).alloc (Nat.le_refl _) _) _
  have hact := act_any 101 cfClear #[.pointer (some ⟨w.heap.size, 0, none⟩)] (fun k => k = g ∨ own k = mark a i) _ B own a g d m hA1 (Or.inl rfl) 1 (fun _ => upP m.f i ⟨[], (m.f i).lasts, true⟩)
    (fun _ _ => upP_few hm i _ (by dsimp only; exact Nat.zero_le _)) (by have := hm.keep; omega) hm.left (fun w1 d1 m1 n1 hA hf _ hc => by
      have := clear1_any w1 B own a g d1 m1 hA i hi n1 w.heap.size (by rw [hc.cell (p := ⟨w.heap.size, 0, none⟩) hsz hne]; exact hbx)
      rw [hf] at this
      exact this)
  clear hA1 h hbx
  go_enter Try.func84, Try.ntmps84
  go_wp2_with fail
  refine hF.mono ?_
  rintro e w1 ⟨rfl, rfl⟩
  go_wp2_with fail
  refine hact.mono ?_
  rintro e w2 ⟨rfl, own2, d2, hA2, ho2, hc2⟩
  go_wp2_with fail
  go_ret
  exact ⟨rfl, own2, d2, hA2, fun k hk => ho2 k (Nat.lt_trans hk hsz), hc0.trans hc2⟩

end Go.Proofs.Ytpjhadaiodnnaaa.M
