/-
  Own text: contracts of the disk's Sync and Clear.
-/
import Derived.Test.YtpjhadaiodnnaaaEAct
namespace Go.Proofs.Ytpjhadaiodnnaaa.M
open Go.ChangeShapes Go.WideShapes Go.ChangeAt Go.RowKit

theorem cf_of {F : FuncId} {fn : Func} (h : Try.prog.funcs[F]? = some fn) (h1 : (fn.name == "runtime.NumGoroutine") = false) (h2 : fn.body.isNone = false) (args : Array Value) (w : World) : (callFunc F args).run Try.prog w = .ok (.enter F args) w := by
  have h3 : ¬ fn.name = "runtime.NumGoroutine" := fun e => by rw [e] at h1; simp at h1
  have h4 : ¬ fn.body = none := fun e => by rw [e] at h2; cases h2
  unfold callFunc
  simp [Sem.run_bind, h, h3, h4]

theorem cfSync (args : Array Value) (w : World) : (callFunc 80 args).run Try.prog w = .ok (.enter 80 args) w := cf_of Try.func80 (by kernel_rfl) (by kernel_rfl) args w
theorem cfClear (args : Array Value) (w : World) : (callFunc 101 args).run Try.prog w = .ok (.enter 101 args) w := cf_of Try.func101 (by kernel_rfl) (by kernel_rfl) args w
theorem cfAppend (args : Array Value) (w : World) : (callFunc 40 args).run Try.prog w = .ok (.enter 40 args) w := cf_of Try.func40 (by kernel_rfl) (by kernel_rfl) args w

set_option maxRecDepth 20000 in
theorem sync1_any (w : World) (B : Nat) (own : Nat → Nat) (a g : Nat) (d : Dk) (m : PD) (h : DA w B own a g d m) (i : Nat) (hi : i < 8) (n bx : Nat) (hbx : w.cell? ⟨bx, 0, none⟩ = some (.pointer (some ⟨g, 2 + i * 3, none⟩))) :
    Calls Try.prog 80 #[.int .i64 n, .pointer (some ⟨bx, 0, none⟩)] w fun e w' => e = .returned (.tuple #[]) ∧ ∃ own2 d2, DA w' B own2 a g d2 { m with f := upP m.f i ⟨(m.f i).told, (m.f i).told, false⟩ } ∧ (∀ k, k < w.heap.size → own2 k = own k) ∧ Ch (fun k => k = g ∨ own k = mark a i) w w' := by
  have hS := sync_any w B own a g d m h i hi
  clear h
  go_enter Try.func80, Try.ntmps80
  go_wp2_with fail
  refine hS.mono ?_
  rintro e w1 ⟨rfl, d1, hA, hc⟩
  go_wp2_with fail
  go_end0
  exact ⟨rfl, own, d1, hA, fun _ _ => rfl, hc.mono fun k _ e => Or.inl e⟩

set_option maxRecDepth 20000 in
theorem clear1_any (w : World) (B : Nat) (own : Nat → Nat) (a g : Nat) (d : Dk) (m : PD) (h : DA w B own a g d m) (i : Nat) (hi : i < 8) (n bx : Nat) (hbx : w.cell? ⟨bx, 0, none⟩ = some (.pointer (some ⟨g, 2 + i * 3, none⟩))) :
    Calls Try.prog 101 #[.int .i64 n, .pointer (some ⟨bx, 0, none⟩)] w fun e w' => e = .returned (.tuple #[]) ∧ ∃ own2 d2, DA w' B own2 a g d2 { m with f := upP m.f i ⟨[], (m.f i).lasts, true⟩ } ∧ (∀ k, k < w.heap.size → own2 k = own k) ∧ Ch (fun k => k = g ∨ own k = mark a i) w w' := by
  have hS := clear_any w B own a g d m h i hi
  clear h
  go_enter Try.func101, Try.ntmps101
  go_wp2_with fail
  refine hS.mono ?_
  rintro e w1 ⟨rfl, d1, hA, hc⟩
  go_wp2_with fail
  go_end0
  exact ⟨rfl, own, d1, hA, fun _ _ => rfl, hc.mono fun k _ e => Or.inl e⟩

theorem DA.alloc {w : World} {B : Nat} {own : Nat → Nat} {a g : Nat} {d : Dk} {m : PD} (h : DA w B own a g d m) (o : Obj) : DA (w.alloc o) B own a g d m :=
  h.ch (S := fun _ => False) (Ch.of_below ((Below.refl _ _).alloc (Nat.le_refl _) o) _) (fun e => e) (fun _ _ _ _ e => e) (fun _ _ e => e) (fun _ _ => rfl) (fun k hk => h.fr k (Nat.le_trans (by simp) hk))

/-- What a disk that is used so far may be: no more than so much, of each. -/
structure PD.few (m : PD) : Prop where
  told : ∀ i, i < 8 → (m.f i).told.length ≤ 549755813888
  lasts : ∀ i, i < 8 → (m.f i).lasts.length ≤ 549755813888
  keep : m.keep.length ≤ 549755813888
  left : m.left ≤ 9223372036854775807

theorem upP_few {m : PD} (h : m.few) (i : Nat) (x : PF) (hx : x.told.length ≤ 1099511627776) : ∀ j, j < 8 → (upP m.f i x j).told.length ≤ 1099511627776 := by
  intro j hj
  by_cases e : j = i
  · rw [e, upP_same]; exact hx
  · rw [upP_other _ _ e]; have := h.told j hj; omega

set_option maxRecDepth 20000 in
theorem Sync_ok (w : World) (B : Nat) (own : Nat → Nat) (a g : Nat) (d : Dk) (m : PD) (h : DA w B own a g d m) (hr : 0 < m.room) (hw : m.down = false) (hm : m.few) (i : Nat) (hi : i < 8) :
    Calls Try.prog 54 #[.pointer (some ⟨g, 0, none⟩), .int .i64 i] w fun e w' => e = .returned (.int .i64 (goneE (m.gone 1))) ∧ ∃ own2 d2, DA w' B own2 a g d2 (m.act 1 fun _ => upP m.f i ⟨(m.f i).told, (m.f i).told, false⟩) ∧ (∀ k, k < w.heap.size → own2 k = own k) ∧ Ch (fun k => k = g ∨ own k = mark a i) w w' := by
  have hF := file_ok w g d h.dc (by rw [h.room]; exact hr) (h.down.trans hw) i hi
  have hA1 := h.alloc (.cells #[.pointer (some ⟨g, 2 + i * 3, none⟩)] 93)
  have hbx : (w.alloc (.cells #[.pointer (some ⟨g, 2 + i * 3, none⟩)] 93)).cell? ⟨w.heap.size, 0, none⟩ = some (.pointer (some ⟨g, 2 + i * 3, none⟩)) := by simp
  have hne : w.heap.size ≠ g := Nat.ne_of_gt h.dc.lt
  have hsz : w.heap.size < (w.alloc (.cells #[.pointer (some ⟨g, 2 + i * 3, none⟩)] 93)).heap.size := by simp
  have hc0 : Ch (fun k => k = g ∨ own k = mark a i) w (w.alloc (.cells #[.pointer (some ⟨g, 2 + i * 3, none⟩)] 93)) := Ch.of_below ((Below.refl _ _).alloc (Nat.le_refl _) _) _
  have hact := act_any 80 cfSync #[.pointer (some ⟨w.heap.size, 0, none⟩)] (fun k => k = g ∨ own k = mark a i) _ B own a g d m hA1 (Or.inl rfl) 1 (fun _ => upP m.f i ⟨(m.f i).told, (m.f i).told, false⟩)
    (fun _ _ => upP_few hm i _ (by have := hm.told i hi; dsimp only; omega)) (by have := hm.keep; omega) hm.left (fun w1 d1 m1 n1 hA hf _ hc => by
      have := sync1_any w1 B own a g d1 m1 hA i hi n1 w.heap.size (by rw [hc.cell (p := ⟨w.heap.size, 0, none⟩) hsz hne]; exact hbx)
      rw [hf] at this
      exact this)
  clear hA1 h hbx
  go_enter Try.func54, Try.ntmps54
  go_wp2_with fail
  refine hF.mono ?_
  rintro e w1 ⟨rfl, rfl⟩
  go_wp2_with fail
  refine hact.mono ?_
  rintro e w2 ⟨rfl, own2, d2, hA2, ho2, hc2⟩
  go_wp2_with fail
  go_ret
  exact ⟨rfl, own2, d2, hA2, fun k hk => ho2 k (Nat.lt_trans hk hsz), hc0.trans hc2⟩

end Go.Proofs.Ytpjhadaiodnnaaa.M
