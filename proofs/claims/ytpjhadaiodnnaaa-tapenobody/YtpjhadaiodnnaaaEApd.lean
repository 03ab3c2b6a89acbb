/-
  Own text: contracts of Append, Crash, Arm and Read.
-/
import Derived.Test.YtpjhadaiodnnaaaEApp1
namespace Go.Proofs.Ytpjhadaiodnnaaa.M
open Go.ChangeShapes Go.WideShapes Go.ChangeAt Go.RowKit

/-- How many bytes are told. -/
def PD.used (m : PD) : Nat := ((m.f 0).told.length + (m.f 1).told.length + (m.f 2).told.length + (m.f 3).told.length + (m.f 4).told.length + (m.f 5).told.length + (m.f 6).told.length + (m.f 7).told.length)

theorem used_eq {w : World} {B : Nat} {own : Nat → Nat} {a g : Nat} {d : Dk} {m : PD} (h : DA w B own a g d m) : usedN d 8 = m.used := by
  unfold PD.used
  rw [← fl_tn h (i := 0) (by decide), ← fl_tn h (i := 1) (by decide), ← fl_tn h (i := 2) (by decide), ← fl_tn h (i := 3) (by decide), ← fl_tn h (i := 4) (by decide), ← fl_tn h (i := 5) (by decide), ← fl_tn h (i := 6) (by decide), ← fl_tn h (i := 7) (by decide)]
  simp [usedN]

theorem mark_pos (a i : Nat) : mark a i ≠ 0 := by unfold mark; omega

set_option maxRecDepth 20000 in
theorem Append_gen (w : World) (B : Nat) (own : Nat → Nat) (a g : Nat) (d : Dk) (m : PD) (h : DA w B own a g d m) (hr : 0 < m.room) (hw : m.down = false) (hm : m.few) (hB : B ≤ w.heap.size) (i : Nat) (hi : i < 8) (q : Option Addr) (l c : Nat) (ys : List Int) (hy : Rd .u8 w q l c ys) (hqg : ∀ x, q = some x → 0 < l → x.block ≠ g) (hl : l ≤ 549755813888) (hu : m.used + l ≤ m.room) (hrm : m.room ≤ 4194304) :
    Calls Try.prog 11 #[.pointer (some ⟨g, 0, none⟩), .int .i64 i, .slice q l c] w fun e w' => e = .returned (.int .i64 (goneE (m.gone l))) ∧ ∃ own2 d2, DA w' B own2 a g d2 (m.act l fun n => upP m.f i { m.f i with told := (m.f i).told ++ ys.take n }) ∧ (∀ k, k < w.heap.size → own2 k = own k) ∧ Ch (fun k => k = g ∨ own k = mark a i) w w' := by
  have hb1 : Below w.heap.size w (w.alloc (.cells #[.slice q l c] 22)) := (Below.refl _ _).alloc (Nat.le_refl _) _
  have h1 := h.below hb1
  have hb2 : Below w.heap.size w ((w.alloc (.cells #[.slice q l c] 22)).alloc (.cells #[.pointer (some ⟨g, 2 + i * 3, none⟩)] 93)) := hb1.alloc (by simp) _
  have hF := file_ok (w.alloc (.cells #[.slice q l c] 22)) g d h1.dc (by rw [h.room]; exact hr) (h.down.trans hw) i hi
  have h2 := h.below hb2
  have hy2 := hy.below' hb2
  have hbb : ((w.alloc (.cells #[.slice q l c] 22)).alloc (.cells #[.pointer (some ⟨g, 2 + i * 3, none⟩)] 93)).cell? ⟨w.heap.size, 0, none⟩ = some (.slice q l c) := by simp
  have hbf : ((w.alloc (.cells #[.slice q l c] 22)).alloc (.cells #[.pointer (some ⟨g, 2 + i * 3, none⟩)] 93)).cell? ⟨w.heap.size + 1, 0, none⟩ = some (.pointer (some ⟨g, 2 + i * 3, none⟩)) := by simp
  have hlt := h.dc.lt
  have hob1 : ¬ (w.heap.size = g ∨ own w.heap.size = mark a i) := by
    rintro (e | e)
    · omega
    · rw [h.fr _ (Nat.le_refl _)] at e; exact mark_pos a i e.symm
  have hob2 : ¬ (w.heap.size + 1 = g ∨ own (w.heap.size + 1) = mark a i) := by
    rintro (e | e)
    · omega
    · rw [h.fr _ (by omega)] at e; exact mark_pos a i e.symm
  have hsz : w.heap.size + 2 ≤ ((w.alloc (.cells #[.slice q l c] 22)).alloc (.cells #[.pointer (some ⟨g, 2 + i * 3, none⟩)] 93)).heap.size := by simp
  have hre := h.room
  generalize hW2 : (w.alloc (.cells #[.slice q l c] 22)).alloc (.cells #[.pointer (some ⟨g, 2 + i * 3, none⟩)] 93) = w2 at *
  have hU : ∀ n, Calls Try.prog 38 #[.pointer (some ⟨g, 0, none⟩)] (w2.drewN n) fun e w' => e = .returned (.int .i64 m.used) ∧ w' = w2.drewN n := by
    intro n
    have h3 := h2.below (below_drewN (Below.refl w2.heap.size w2) n)
    have := used_any (w2.drewN n) g d h3.dc (by rw [h.room]; exact hr) (fun j hj => by rw [fl_tn h hj]; have := hm.told j hj; omega)
    rw [used_eq h3] at this
    exact this
  have hact : ∀ n, Calls Try.prog 39 #[.pointer (some ⟨g, 0, none⟩), .int .i64 l, .func (.func 40) #[] #[.pointer (some ⟨w.heap.size + 1, 0, none⟩), .pointer (some ⟨w.heap.size, 0, none⟩)]] (w2.drewN n) fun e w' => e = .returned (.int .i64 (goneE (m.gone l))) ∧ ∃ own2 d2, DA w' B own2 a g d2 (m.act l fun n => upP m.f i { m.f i with told := (m.f i).told ++ ys.take n }) ∧ (∀ k, k < w.heap.size → own2 k = own k) ∧ Ch (fun k => k = g ∨ own k = mark a i) w w' := by
    intro n
    have hbd := below_drewN (Below.refl w2.heap.size w2) n
    have h3 := h2.below hbd
    have hbt := hb2.trans (hbd.mono hb2.size)
    refine (act_any 40 cfAppend _ (fun k => k = g ∨ own k = mark a i) _ B own a g d m h3 (Or.inl rfl) l (fun n => upP m.f i { m.f i with told := (m.f i).told ++ ys.take n })
      (fun n1 hn1 => upP_few hm i _ (by have := hm.told i hi; dsimp only; rw [List.length_append, List.length_take]; omega)) (by have := hm.keep; omega) hm.left (fun w4 d4 m4 n4 hA hf hn4 hc => by
        have hy4 := (hy2.below' hbd).ch0 hc (fun x e e0 e2 => ?_)
        · have := append1_any w4 B own a g d4 m4 hA i hi (Nat.le_trans (Nat.le_trans hB hbt.size) hc.size) n4 (w.heap.size + 1) w.heap.size q l c ys hy4 hn4 hl (by rw [hf]; exact hm.told i hi)
            (by rw [hc.cell (p := ⟨w.heap.size + 1, 0, none⟩) (by show w.heap.size + 1 < w2.heap.size; omega) (by show ¬ w.heap.size + 1 = g; omega)]; exact hbf)
            (by rw [hc.cell (p := ⟨w.heap.size, 0, none⟩) (by show w.heap.size < w2.heap.size; omega) (by show ¬ w.heap.size = g; omega)]; exact hbb) hob2 hob1
          unfold AR at this
          rw [hf] at this
          exact this
        · exact hqg x e e0 e2)).mono ?_
    rintro e w5 ⟨rfl, own2, d2, hA2, ho2, hc2⟩
    exact ⟨rfl, own2, d2, hA2, fun k hk => ho2 k (by show k < w2.heap.size; omega), (Ch.of_below hbt _).trans hc2⟩
  have hcr : w2.cell? ⟨g, 0, none⟩ = some (.int .i64 m.room) := by rw [← hre]; exact h2.dc.room
  clear h h1 h2 hm hy hy2 hob1 hob2
  go_enter Try.func11, Try.ntmps11
  go_wp2_with fail
  refine hF.mono ?_
  rintro e w1 ⟨rfl, rfl⟩
  go_wp2_with fail
  go_quiet ((go_at_call 38; exact Calls.quiet_of_same (hU _)))
  go_wp2_with fail
  refine (hact _).mono ?_
  rintro e w5 ⟨rfl, own2, d2, hA2, ho2, hc2⟩
  go_wp2_with fail
  go_ret
  exact ⟨rfl, own2, d2, hA2, ho2, hc2⟩

theorem Append_ok (w : World) (B : Nat) (own : Nat → Nat) (a g : Nat) (d : Dk) (m : PD) (h : DA w B own a g d m) (hr : 0 < m.room) (hw : m.down = false) (hm : m.few) (hB : B ≤ w.heap.size) (i : Nat) (hi : i < 8) (q : Option Addr) (l c : Nat) (ys : List Int) (hy : Rd .u8 w q l c ys) (hqg : ∀ x, q = some x → x.block ≠ g) (hl : l ≤ 549755813888) (hu : m.used + l ≤ m.room) (hrm : m.room ≤ 4194304) :
    Calls Try.prog 11 #[.pointer (some ⟨g, 0, none⟩), .int .i64 i, .slice q l c] w fun e w' => e = .returned (.int .i64 (goneE (m.gone l))) ∧ ∃ own2 d2, DA w' B own2 a g d2 (m.act l fun n => upP m.f i { m.f i with told := (m.f i).told ++ ys.take n }) ∧ (∀ k, k < w.heap.size → own2 k = own k) ∧ Ch (fun k => k = g ∨ own k = mark a i) w w' :=
  Append_gen w B own a g d m h hr hw hm hB i hi q l c ys hy (fun x e _ => hqg x e) hl hu hrm

end Go.Proofs.Ytpjhadaiodnnaaa.M
