/-
  Own text: contracts of New, Start, Crash, Read, and of an Append that is refused.
-/
import Derived.Test.YtpjhadaiodnnaaaEApd
import Derived.Lib.Bytes
namespace Go.Proofs.Ytpjhadaiodnnaaa.M
open Go.ChangeShapes Go.WideShapes Go.ChangeAt Go.RowKit

/-- A disk that was just made. -/
def pd0 (room : Nat) : PD := ⟨room, false, fun _ => ⟨[], [], false⟩, 0, []⟩

theorem New_ok (w : World) (a r : Nat) (h1 : 1 ≤ r) (h2 : r ≤ 4194304) :
    Calls Try.prog 9 #[.int .i64 r] w fun e w' => e = .returned (.tuple #[.pointer (some ⟨w.heap.size, 0, none⟩), .int .i64 0]) ∧ DA w' w.heap.size (fun _ => 0) a w.heap.size (dk0 r) (pd0 r) ∧ Below w.heap.size w w' := by
  refine (new_any w r h1 h2).mono ?_
  rintro e w' ⟨rfl, hd, hb⟩
  refine ⟨rfl, ⟨hd, rfl, rfl, rfl, fun _ _ => rfl, fun i _ => ⟨OwS.nil _ _ _ _, OwS.nil _ _ _ _, (fun _ e => by cases e), (fun _ e => by cases e), (fun _ => List.prefix_refl _), (fun e => by cases e)⟩, ⟨rfl, Nat.le_refl _, fun _ => rfl, fun h => absurd h (Nat.lt_irrefl _)⟩, rfl, (fun _ e => by cases e), Nat.le_refl _, fun _ _ => rfl⟩, hb⟩

theorem Start_ok (w : World) (B : Nat) (own : Nat → Nat) (a g : Nat) (d : Dk) (m : PD) (h : DA w B own a g d m) (hr : 0 < m.room) :
    Calls Try.prog 36 #[.pointer (some ⟨g, 0, none⟩)] w fun e w' => e = .returned (.int .i64 0) ∧ DA w' B own a g { d with down := false } { m with down := false } ∧ Ch (fun k => k = g) w w' := by
  refine (start_any w g d h.dc (by rw [h.room]; exact hr)).mono ?_
  rintro e w' ⟨rfl, rfl⟩
  have hc := Ch.setCell w ⟨g, 1, none⟩ (.bool false)
  exact ⟨rfl, DA.mend hc (h.dc.setDown false) h.room rfl h.left h.cl h.fm h.keep h.og h.ok h.bg h.fr, hc⟩

set_option maxRecDepth 20000 in
theorem Crash_gen (w : World) (B : Nat) (own : Nat → Nat) (a g : Nat) (d : Dk) (m : PD) (h : DA w B own a g d m) (hr : 0 < m.room) (hw : m.down = false) (hm : m.few) (q : Option Addr) (l c : Nat) (keep : List Int) (hy : Rd .i64 w q l c keep) (hqg : ∀ x, q = some x → 0 < l → x.block ≠ g) (hl : l ≤ 1099511627776) :
    Calls Try.prog 28 #[.pointer (some ⟨g, 0, none⟩), .slice q l c] w fun e w' => e = .returned (.int .i64 0) ∧ ∃ d2, DA w' B own a g d2 (m.fall keep) ∧ Ch (fun k => k = g) w w' := by
  have hR := ready_any w g d h.dc (by rw [h.room]; exact hr)
  rw [h.down, hw] at hR
  have hF := fall_any w B own a g d m h q l c keep hy hl hqg (fun i hi => by have := hm.told i hi; omega)
  clear h hy
  go_enter Try.func28, Try.ntmps28
  go_wp2_with fail
  refine hR.mono ?_
  rintro e w1 ⟨rfl, rfl⟩
  go_wp2_with fail
  refine hF.mono ?_
  rintro e w2 ⟨rfl, d2, hA, hc⟩
  go_wp2_with fail
  go_ret
  exact ⟨rfl, d2, hA, hc⟩

theorem Crash_ok (w : World) (B : Nat) (own : Nat → Nat) (a g : Nat) (d : Dk) (m : PD) (h : DA w B own a g d m) (hr : 0 < m.room) (hw : m.down = false) (hm : m.few) (q : Option Addr) (l c : Nat) (keep : List Int) (hy : Rd .i64 w q l c keep) (hqg : ∀ x, q = some x → x.block ≠ g) (hl : l ≤ 1099511627776) :
    Calls Try.prog 28 #[.pointer (some ⟨g, 0, none⟩), .slice q l c] w fun e w' => e = .returned (.int .i64 0) ∧ ∃ d2, DA w' B own a g d2 (m.fall keep) ∧ Ch (fun k => k = g) w w' :=
  Crash_gen w B own a g d m h hr hw hm q l c keep hy (fun x e _ => hqg x e) hl

set_option maxRecDepth 20000 in
theorem Append_none (w : World) (B : Nat) (own : Nat → Nat) (a g : Nat) (d : Dk) (m : PD) (h : DA w B own a g d m) (hr : 0 < m.room) (hw : m.down = false) (i : Int) (hi : i < 0 ∨ 8 ≤ i) (q : Option Addr) (l c : Nat) :
    Calls Try.prog 11 #[.pointer (some ⟨g, 0, none⟩), .int .i64 i, .slice q l c] w fun e w' => e = .returned (.int .i64 51) ∧ Below w.heap.size w w' := by
  have hb1 : Below w.heap.size w (w.alloc (.cells #[.slice q l c] 22)) := (Below.refl _ _).alloc (Nat.le_refl _) _
  have h1 := h.below hb1
  have hF := file_none (w.alloc (.cells #[.slice q l c] 22)) g d h1.dc (by rw [h.room]; exact hr) (h.down.trans hw) i hi
  have hb2 : Below w.heap.size w ((w.alloc (.cells #[.slice q l c] 22)).alloc (.cells #[.pointer none] 93)) := hb1.alloc (by simp) _
  clear h h1 hi
  go_enter Try.func11, Try.ntmps11
  go_wp2_with fail
  refine hF.mono ?_
  rintro e w1 ⟨rfl, rfl⟩
  go_wp2_with fail
  go_ret
  exact ⟨rfl, hb2⟩

set_option maxRecDepth 20000 in
theorem bclone_any (p : Option Addr) (n c : Nat) (xs : List Int) (w : World) (hr : Rd .u8 w p n c xs) (hn : n ≤ 1099511627776) :
    Calls Try.prog 61 #[.slice p n c] w fun e w' => ∃ p' c', e = .returned (.slice p' n c') ∧ Rd .u8 w' p' n c' xs ∧ Below w.heap.size w w' ∧ (∀ x, p' = some x → 0 < n → w.heap.size ≤ x.block) := by
  have q22 : ∀ (w : World) (a : Option Addr) (n c n' c' : Nat), (binOp .eql 22 (.slice a n c) (.slice none n' c')).run Try.prog w = .ok (.bool a.isNone) w := fun w a n c n' c' => Lib.run_eql_slice_nil w _ _ a n c n' c' Try.underlying22
  obtain ⟨i0, hi0, hz0, hz1, hz2⟩ := info_parts infoU8
  cases p with
  | none =>
    have hn0 : n = 0 := by have := hr.cap; have := hr.nil rfl; omega
    subst hn0
    have hc0 := hr.nil rfl
    subst hc0
    go_enter Try.func61, Try.ntmps61
    go_wp2_with fail
    go_ret
    exact ⟨none, 0, rfl, hr, Below.refl _ _, fun x e => by cases e⟩
  | some ad =>
    have hba := (Below.refl w.heap.size w).alloc (Nat.le_refl _) (.cells #[] 5)
    have hra := hr.below' hba
    clear hr
    go_enter Try.func61, Try.ntmps61
    go_wp2_with (refine wpList_app _ rfl (.tmp 5) (.tmp 6) 22 rfl .u8 5 i0 (.int .u8 0) 1 Try.underlying22 hi0 hz0 hz1 hz2 rfl (w.alloc (.cells #[] 5)).heap.size _ 0 0 [] rfl (Ow.empty _ _ _ _ _) (some ad) n c xs rfl hra ?c1 ?c2 (Nat.le_refl _) ?_)
    case c1 => omega
    case c2 => unfold maxLen; omega
    intro p' c' w' h1 h2
    go_wp2_with fail
    go_ret
    refine ⟨p', c', rfl, h1.rd, hba.trans (h2.mono (Nat.le_succ _)), fun x e h0 => ?_⟩
    subst e
    rcases h1.own with ⟨e0, _⟩ | ho
    · omega
    · exact Nat.le_trans (Nat.le_succ _) (World.ownsRow.lt ho x.block rfl).1

set_option maxRecDepth 20000 in
theorem Read_ok (w : World) (B : Nat) (own : Nat → Nat) (a g : Nat) (d : Dk) (m : PD) (h : DA w B own a g d m) (hr : 0 < m.room) (hw : m.down = false) (hm : m.few) (i : Nat) (hi : i < 8) :
    Calls Try.prog 46 #[.pointer (some ⟨g, 0, none⟩), .int .i64 i] w fun e w' => ∃ p' c', e = .returned (.tuple #[.slice p' (m.f i).told.length c', .int .i64 0]) ∧ Rd .u8 w' p' (m.f i).told.length c' (m.f i).told ∧ Below w.heap.size w w' ∧ (∀ x, p' = some x → 0 < (m.f i).told.length → w.heap.size ≤ x.block) := by
  have hF := file_ok w g d h.dc (by rw [h.room]; exact hr) (h.down.trans hw) i hi
  have hct := h.dc.told hi
  have htn := fl_tn h hi
  have hC := bclone_any _ _ _ _ w (h.fm i hi).told.rd (by rw [htn]; have := hm.told i hi; omega)
  rw [htn] at hC hct
  clear h htn
  generalize (m.f i).told = xs at *
  generalize hln : xs.length = n at *
  clear hln
  generalize d.fl i = fl at *
  obtain ⟨tp, tn, tc, lp, ln, lc, cl⟩ := fl
  dsimp only at *
  go_enter Try.func46, Try.ntmps46
  go_wp2_with fail
  refine hF.mono ?_
  rintro e w1 ⟨rfl, rfl⟩
  go_wp2_with fail
  refine hC.mono ?_
  rintro e w2 ⟨p', c', rfl, h1, h2, h3⟩
  go_wp2_with fail
  go_ret2
  exact ⟨p', c', rfl, h1, h2, h3⟩

end Go.Proofs.Ytpjhadaiodnnaaa.M
