/-
  Own text: every call on a disk that was made, whatever comes of it; one contract of the law's does.
-/
import Derived.Test.YtcgpdaalehgjdaaDShort
namespace Go.Proofs.Ytcgpdaalehgjdaa.M
open Go.ChangeShapes Go.WideShapes Go.ChangeAt Go.RowKit

/-- Why nothing can be done to a file. -/
def badE (b : Bool) : Int := if b then 50 else 51

theorem badE_ne (b : Bool) : (badE b != 0) = true := by cases b <;> rfl

theorem file_bad (w : World) (B : Nat) (own : Nat → Nat) (a g : Nat) (d : Dk) (m : PD) (h : DA w B own a g d m) (hr : 0 < m.room) (i : Int) (hi : m.down = true ∨ (i < 0 ∨ 8 ≤ i)) :
    Calls Try.prog 40 #[.pointer (some ⟨g, 0, none⟩), .int .i64 i] w fun e w' => e = .returned (.tuple #[.pointer none, .int .i64 (badE m.down)]) ∧ w' = w := by
  cases hd : m.down with
  | true => exact file_down w g d h.dc (by rw [h.room]; exact hr) (h.down.trans hd) i
  | false =>
    rw [hd] at hi
    exact file_none w g d h.dc (by rw [h.room]; exact hr) (h.down.trans hd) i (hi.resolve_left (by decide))

set_option maxRecDepth 20000 in
theorem Sync_bad (w : World) (g : Nat) (i k : Int) (hk : (k != 0) = true) (hF : Calls Try.prog 40 #[.pointer (some ⟨g, 0, none⟩), .int .i64 i] w fun e w' => e = .returned (.tuple #[.pointer none, .int .i64 k]) ∧ w' = w) :
    Calls Try.prog 24 #[.pointer (some ⟨g, 0, none⟩), .int .i64 i] w fun e w' => e = .returned (.int .i64 k) ∧ Below w.heap.size w w' := by
  have hb : Below w.heap.size w (w.alloc (.cells #[.pointer none] 77)) := (Below.refl _ _).alloc (Nat.le_refl _) _
  go_enter Try.func24, Try.ntmps24
  go_wp2_with fail
  refine hF.mono ?_
  rintro e w1 ⟨rfl, rfl⟩
  go_wp2_with fail
  go_ret
  exact ⟨rfl, hb⟩

set_option maxRecDepth 20000 in
theorem Clear_bad (w : World) (g : Nat) (i k : Int) (hk : (k != 0) = true) (hF : Calls Try.prog 40 #[.pointer (some ⟨g, 0, none⟩), .int .i64 i] w fun e w' => e = .returned (.tuple #[.pointer none, .int .i64 k]) ∧ w' = w) :
    Calls Try.prog 33 #[.pointer (some ⟨g, 0, none⟩), .int .i64 i] w fun e w' => e = .returned (.int .i64 k) ∧ Below w.heap.size w w' := by
  have hb : Below w.heap.size w (w.alloc (.cells #[.pointer none] 77)) := (Below.refl _ _).alloc (Nat.le_refl _) _
  go_enter Try.func33, Try.ntmps33
  go_wp2_with fail
  refine hF.mono ?_
  rintro e w1 ⟨rfl, rfl⟩
  go_wp2_with fail
  go_ret
  exact ⟨rfl, hb⟩

set_option maxRecDepth 20000 in
theorem Read_bad (w : World) (g : Nat) (i k : Int) (hk : (k != 0) = true) (hF : Calls Try.prog 40 #[.pointer (some ⟨g, 0, none⟩), .int .i64 i] w fun e w' => e = .returned (.tuple #[.pointer none, .int .i64 k]) ∧ w' = w) :
    Calls Try.prog 19 #[.pointer (some ⟨g, 0, none⟩), .int .i64 i] w fun e w' => e = .returned (.tuple #[.slice none 0 0, .int .i64 k]) ∧ w' = w := by
  go_enter Try.func19, Try.ntmps19
  go_wp2_with fail
  refine hF.mono ?_
  rintro e w1 ⟨rfl, rfl⟩
  go_wp2_with fail
  go_ret2
  exact ⟨rfl, rfl⟩

set_option maxRecDepth 20000 in
theorem Append_bad (w : World) (g : Nat) (i k : Int) (hk : (k != 0) = true) (q : Option Addr) (l c : Nat) (hF : Calls Try.prog 40 #[.pointer (some ⟨g, 0, none⟩), .int .i64 i] (w.alloc (.cells #[.slice q l c] 32)) fun e w' => e = .returned (.tuple #[.pointer none, .int .i64 k]) ∧ w' = w.alloc (.cells #[.slice q l c] 32)) :
    Calls Try.prog 30 #[.pointer (some ⟨g, 0, none⟩), .int .i64 i, .slice q l c] w fun e w' => e = .returned (.int .i64 k) ∧ Below w.heap.size w w' := by
  have hb2 : Below w.heap.size w ((w.alloc (.cells #[.slice q l c] 32)).alloc (.cells #[.pointer none] 77)) := ((Below.refl _ _).alloc (Nat.le_refl _) _).alloc (by simp) _
  go_enter Try.func30, Try.ntmps30
  go_wp2_with fail
  refine hF.mono ?_
  rintro e w1 ⟨rfl, rfl⟩
  go_wp2_with fail
  go_ret
  exact ⟨rfl, hb2⟩

set_option maxRecDepth 20000 in
theorem Crash_down (w : World) (B : Nat) (own : Nat → Nat) (a g : Nat) (d : Dk) (m : PD) (h : DA w B own a g d m) (hr : 0 < m.room) (hw : m.down = true) (q : Option Addr) (l c : Nat) :
    Calls Try.prog 25 #[.pointer (some ⟨g, 0, none⟩), .slice q l c] w fun e w' => e = .returned (.int .i64 50) ∧ w' = w := by
  have hR := ready_any w g d h.dc (by rw [h.room]; exact hr)
  rw [h.down, hw] at hR
  clear h
  go_enter Try.func25, Try.ntmps25
  go_wp2_with fail
  refine hR.mono ?_
  rintro e w1 ⟨rfl, rfl⟩
  go_wp2_with fail
  go_ret
  exact ⟨rfl, rfl⟩

set_option maxRecDepth 20000 in
theorem Arm_down (w : World) (B : Nat) (own : Nat → Nat) (a g : Nat) (d : Dk) (m : PD) (h : DA w B own a g d m) (hr : 0 < m.room) (hw : m.down = true) (n : Int) (q : Option Addr) (l c : Nat) :
    Calls Try.prog 29 #[.pointer (some ⟨g, 0, none⟩), .int .i64 n, .slice q l c] w fun e w' => e = .returned (.int .i64 50) ∧ w' = w := by
  have hR := ready_any w g d h.dc (by rw [h.room]; exact hr)
  rw [h.down, hw] at hR
  clear h
  go_enter Try.func29, Try.ntmps29
  go_wp2_with fail
  refine hR.mono ?_
  rintro e w1 ⟨rfl, rfl⟩
  go_wp2_with fail
  go_ret
  exact ⟨rfl, rfl⟩

set_option maxRecDepth 20000 in
theorem Arm_low (w : World) (B : Nat) (own : Nat → Nat) (a g : Nat) (d : Dk) (m : PD) (h : DA w B own a g d m) (hr : 0 < m.room) (hw : m.down = false) (n : Int) (hn : n < 1) (q : Option Addr) (l c : Nat) :
    Calls Try.prog 29 #[.pointer (some ⟨g, 0, none⟩), .int .i64 n, .slice q l c] w fun e w' => e = .returned (.int .i64 1) ∧ w' = w := by
  have hR := ready_any w g d h.dc (by rw [h.room]; exact hr)
  rw [h.down, hw] at hR
  clear h
  go_enter Try.func29, Try.ntmps29
  go_wp2_with fail
  refine hR.mono ?_
  rintro e w1 ⟨rfl, rfl⟩
  go_wp2_with fail
  go_ret
  exact ⟨rfl, rfl⟩

set_option maxRecDepth 20000 in
theorem Append_full (w : World) (B : Nat) (own : Nat → Nat) (a g : Nat) (d : Dk) (m : PD) (h : DA w B own a g d m) (hr : 0 < m.room) (hw : m.down = false) (hm : m.few) (i : Nat) (hi : i < 8) (q : Option Addr) (l c : Nat) (hl : l ≤ 549755813888) (hu : m.room < m.used + l) (hrm : m.room ≤ 4194304) :
    Calls Try.prog 30 #[.pointer (some ⟨g, 0, none⟩), .int .i64 i, .slice q l c] w fun e w' => e = .returned (.int .i64 7) ∧ Below w.heap.size w w' := by
  have hb1 : Below w.heap.size w (w.alloc (.cells #[.slice q l c] 32)) := (Below.refl _ _).alloc (Nat.le_refl _) _
  have h1 := h.below hb1
  have hb2 : Below w.heap.size w ((w.alloc (.cells #[.slice q l c] 32)).alloc (.cells #[.pointer (some ⟨g, 2 + i * 3, none⟩)] 77)) := hb1.alloc (by simp) _
  have hF := file_ok (w.alloc (.cells #[.slice q l c] 32)) g d h1.dc (by rw [h.room]; exact hr) (h.down.trans hw) i hi
  have h2 := h.below hb2
  have hbb : ((w.alloc (.cells #[.slice q l c] 32)).alloc (.cells #[.pointer (some ⟨g, 2 + i * 3, none⟩)] 77)).cell? ⟨w.heap.size, 0, none⟩ = some (.slice q l c) := by simp
  have hre := h.room
  have hmu : m.used ≤ 4398046511104 := by
    have t0 := hm.told 0 (by decide)
    have t1 := hm.told 1 (by decide)
    have t2 := hm.told 2 (by decide)
    have t3 := hm.told 3 (by decide)
    have t4 := hm.told 4 (by decide)
    have t5 := hm.told 5 (by decide)
    have t6 := hm.told 6 (by decide)
    have t7 := hm.told 7 (by decide)
    unfold PD.used
    omega
  generalize hW2 : (w.alloc (.cells #[.slice q l c] 32)).alloc (.cells #[.pointer (some ⟨g, 2 + i * 3, none⟩)] 77) = w2 at *
  have hU : ∀ n, Calls Try.prog 17 #[.pointer (some ⟨g, 0, none⟩)] (w2.drewN n) fun e w' => e = .returned (.int .i64 m.used) ∧ w' = w2.drewN n := by
    intro n
    have h3 := h2.below (below_drewN (Below.refl w2.heap.size w2) n)
    have := used_any (w2.drewN n) g d h3.dc (by rw [h.room]; exact hr) (fun j hj => by rw [fl_tn h hj]; have := hm.told j hj; omega)
    rw [used_eq h3] at this
    exact this
  have hcr : w2.cell? ⟨g, 0, none⟩ = some (.int .i64 m.room) := by rw [← hre]; exact h2.dc.room
  clear h h1 h2 hm
  go_enter Try.func30, Try.ntmps30
  go_wp2_with fail
  refine hF.mono ?_
  rintro e w1 ⟨rfl, rfl⟩
  go_wp2_with fail
  go_quiet ((go_at_call 17; exact Calls.quiet_of_same (hU _)))
  go_wp2_with fail
  go_ret
  exact ⟨rfl, below_drewN hb2 _⟩

/-- The blocks of disk a: its own, and those of its files. -/
def Mine (own : Nat → Nat) (a g k : Nat) : Prop := k = g ∨ ∃ i, i < 8 ∧ own k = mark a i

/-- Disk a is m2; all else is as it was. -/
def After (B a g : Nat) (own : Nat → Nat) (w w' : World) (m2 : PD) : Prop := ∃ own2 d2, DA w' B own2 a g d2 m2 ∧ (∀ k, k < w.heap.size → own2 k = own k) ∧ Ch (Mine own a g) w w'

theorem After.before {B a g : Nat} {own : Nat → Nat} {w w1 w' : World} {m2 : PD} (hb : Below w.heap.size w w1) (h : After B a g own w1 w' m2) : After B a g own w w' m2 := by
  obtain ⟨own2, d2, h1, h2, h3⟩ := h
  exact ⟨own2, d2, h1, fun k hk => h2 k (Nat.lt_of_lt_of_le hk hb.size), (Ch.of_below hb _).trans h3⟩

theorem After.same {B a g : Nat} {own : Nat → Nat} {w w' : World} {d : Dk} {m : PD} (h : DA w B own a g d m) (hb : Below w.heap.size w w') : After B a g own w w' m :=
  ⟨own, d, h.below hb, fun _ _ => rfl, Ch.of_below hb _⟩

theorem After.one {B a g : Nat} {own : Nat → Nat} {w w' : World} {d : Dk} {m : PD} (h : DA w' B own a g d m) (hc : Ch (fun k => k = g) w w') : After B a g own w w' m :=
  ⟨own, d, h, fun _ _ => rfl, hc.mono fun _ _ e => Or.inl e⟩

theorem After.file {B a g i : Nat} {own : Nat → Nat} {w w' : World} {m : PD} (hi : i < 8) (h : ∃ own2 d2, DA w' B own2 a g d2 m ∧ (∀ k, k < w.heap.size → own2 k = own k) ∧ Ch (fun k => k = g ∨ own k = mark a i) w w') : After B a g own w w' m := by
  obtain ⟨own2, d2, h1, h2, h3⟩ := h
  exact ⟨own2, d2, h1, h2, h3.mono fun k _ e => e.elim Or.inl fun e => Or.inr ⟨i, hi, e⟩⟩

/-- A call. -/
structure Dq where
  op : Int
  i : Int
  n : Int
  b : List Int
  keep : List Int

def PD.clearAt (m : PD) (i : Nat) : PD := m.act 1 fun _ => upP m.f i ⟨[], (m.f i).lasts, true⟩
def PD.syncAt (m : PD) (i : Nat) : PD := m.act 1 fun _ => upP m.f i ⟨(m.f i).told, (m.f i).told, false⟩
def PD.putAt (m : PD) (i : Nat) (b : List Int) : PD := m.act b.length fun n => upP m.f i { m.f i with told := (m.f i).told ++ b.take n }

/-- A disk behind a call, and what is answered. -/
def PD.step (m : PD) (k : Dq) : PD × Int :=
  if (wrap64 ((IntKind.u64.wrap k.op).tmod 9) == 7) = true then ({ m with down := false }, 0) else
  if m.down = true then (m, 50) else
  if (wrap64 ((IntKind.u64.wrap k.op).tmod 9) == 6) = true then (m.fall k.keep, 0) else
  if (wrap64 ((IntKind.u64.wrap k.op).tmod 9) == 8) = true then (if k.n < 1 then (m, 1) else ({ m with left := k.n.toNat, keep := k.keep }, 0)) else
  if k.i < 0 ∨ 8 ≤ k.i then (m, 51) else
  if (wrap64 ((IntKind.u64.wrap k.op).tmod 9) == 4) = true then (m.clearAt k.i.toNat, goneE (m.gone 1)) else
  if (wrap64 ((IntKind.u64.wrap k.op).tmod 9) == 5) = true then (m.syncAt k.i.toNat, goneE (m.gone 1)) else
  if m.room < m.used + k.b.length then (m, 7) else (m.putAt k.i.toNat k.b, goneE (m.gone k.b.length))

/-- A disk with at most s bytes in each row. -/
structure PD.ok (m : PD) (s : Nat) : Prop where
  r0 : 0 < m.room
  r1 : m.room ≤ 4194304
  told : ∀ i, i < 8 → (m.f i).told.length ≤ s
  lasts : ∀ i, i < 8 → (m.f i).lasts.length ≤ s
  keep : m.keep.length ≤ 16384
  left : m.left ≤ 9223372036854775807

theorem PD.ok.few {m : PD} {s : Nat} (h : m.ok s) (hs : s ≤ 549755813888) : m.few :=
  ⟨fun i hi => Nat.le_trans (h.told i hi) hs, fun i hi => Nat.le_trans (h.lasts i hi) hs, Nat.le_trans h.keep (by decide), h.left⟩

theorem PD.ok.mono {m : PD} {s t : Nat} (h : m.ok s) (hs : s ≤ t) : m.ok t :=
  ⟨h.r0, h.r1, fun i hi => Nat.le_trans (h.told i hi) hs, fun i hi => Nat.le_trans (h.lasts i hi) hs, h.keep, h.left⟩

theorem rest_le {f : PF} {s : Nat} (h1 : f.told.length ≤ s) (h2 : f.lasts.length ≤ s) (k : Int) : (f.rest k).length ≤ s := by
  unfold PF.rest
  by_cases h : k < 0
  · rw [if_pos h]; exact h2
  · rw [if_neg h, List.length_take]; exact Nat.le_trans (Nat.min_le_right _ _) h1

theorem PD.ok.fall {m : PD} {s : Nat} (h : m.ok s) (keep : List Int) : (m.fall keep).ok s := by
  refine ⟨h.r0, h.r1, fun i hi => ?_, fun i hi => ?_, Nat.zero_le _, Nat.zero_le _⟩
  · show (fallN m.f keep 8 i).told.length ≤ s
    unfold fallN
    rw [if_pos hi]
    exact rest_le (h.told i hi) (h.lasts i hi) _
  · show (fallN m.f keep 8 i).lasts.length ≤ s
    unfold fallN
    rw [if_pos hi]
    exact rest_le (h.told i hi) (h.lasts i hi) _

theorem PD.ok.act {m : PD} {s : Nat} (h : m.ok s) (n : Nat) (X : Nat → Nat → PF) (hX : ∀ n i, i < 8 → (X n i).told.length ≤ s ∧ (X n i).lasts.length ≤ s) : (m.act n X).ok s := by
  unfold PD.act
  by_cases h0 : m.left = 0
  · rw [if_pos h0]
    exact ⟨h.r0, h.r1, fun i hi => (hX n i hi).1, fun i hi => (hX n i hi).2, h.keep, h.left⟩
  · rw [if_neg h0]
    by_cases h1 : m.left ≤ n
    · rw [if_pos h1]
      exact PD.ok.fall (m := { m with f := X m.left }) ⟨h.r0, h.r1, fun i hi => (hX _ i hi).1, fun i hi => (hX _ i hi).2, h.keep, h.left⟩ _
    · rw [if_neg h1]
      exact ⟨h.r0, h.r1, fun i hi => (hX n i hi).1, fun i hi => (hX n i hi).2, h.keep, Nat.le_trans (Nat.sub_le _ _) h.left⟩

theorem PD.ok.up {m : PD} {s t : Nat} (h : m.ok s) (hst : s ≤ t) (i : Nat) (x : PF) (h1 : x.told.length ≤ t) (h2 : x.lasts.length ≤ t) : ∀ j, j < 8 → (upP m.f i x j).told.length ≤ t ∧ (upP m.f i x j).lasts.length ≤ t := by
  intro j hj
  by_cases e : j = i
  · rw [e, upP_same]; exact ⟨h1, h2⟩
  · rw [upP_other _ _ e]; exact ⟨Nat.le_trans (h.told j hj) hst, Nat.le_trans (h.lasts j hj) hst⟩

theorem PD.ok.clearAt {m : PD} {s : Nat} (h : m.ok s) {i : Nat} (hi : i < 8) : (m.clearAt i).ok s :=
  h.act _ _ fun _ => h.up (Nat.le_refl _) i _ (Nat.zero_le _) (h.lasts i hi)
theorem PD.ok.syncAt {m : PD} {s : Nat} (h : m.ok s) {i : Nat} (hi : i < 8) : (m.syncAt i).ok s :=
  h.act _ _ fun _ => h.up (Nat.le_refl _) i _ (h.told i hi) (h.told i hi)
theorem PD.ok.putAt {m : PD} {s : Nat} (h : m.ok s) {i : Nat} (hi : i < 8) (b : List Int) : (m.putAt i b).ok (s + b.length) :=
  (h.mono (Nat.le_add_right _ _)).act _ _ fun n => h.up (Nat.le_add_right _ _) i _ (by
    dsimp only
    rw [List.length_append, List.length_take]
    have := h.told i hi
    omega) (by dsimp only; have := h.lasts i hi; omega)

theorem PD.ok.step {m : PD} {s : Nat} (h : m.ok s) (k : Dq) (h1 : k.keep.length ≤ 16384) (h2 : k.n ≤ 9223372036854775807) : (m.step k).1.ok (s + k.b.length) := by
  have hs := h.mono (Nat.le_add_right s k.b.length)
  unfold PD.step
  split
  · exact ⟨hs.r0, hs.r1, hs.told, hs.lasts, hs.keep, hs.left⟩
  split
  · exact hs
  split
  · exact hs.fall _
  split
  · split
    · exact hs
    · exact ⟨hs.r0, hs.r1, hs.told, hs.lasts, h1, by show k.n.toNat ≤ _; omega⟩
  split
  · exact hs
  split
  · exact hs.clearAt (by omega)
  split
  · exact hs.syncAt (by omega)
  split
  · exact hs
  · exact h.putAt (by omega) _

theorem beq_other {x a b : Int} (h : (x == a) = true) (hab : (a == b) = false) : (x == b) = false := by
  rw [eq_of_beq h]; exact hab

set_option maxRecDepth 20000 in
set_option maxHeartbeats 1000000 in
theorem does_any (w : World) (B : Nat) (own : Nat → Nat) (a g : Nat) (d : Dk) (m : PD) (s : Nat) (h : DA w B own a g d m) (hm : m.ok s) (hs : s ≤ 549755813888) (hB : B ≤ w.heap.size)
    (op i n : Int) (bq : Option Addr) (bl bc : Nat) (kq : Option Addr) (kl kc : Nat) (b keep : List Int) (hb : Rd .u8 w bq bl bc b) (hk : Rd .i64 w kq kl kc keep) (hbg : ∀ x, bq = some x → 0 < bl → x.block ≠ g) (hkg : ∀ x, kq = some x → 0 < kl → x.block ≠ g) (hbl : bl ≤ 16384) (hkl : kl ≤ 16384) :
    Calls Try.prog 15 #[.pointer (some ⟨g, 0, none⟩), .agg #[.int .i64 op, .int .i64 i, .int .i64 n, .slice bq bl bc, .slice kq kl kc]] w fun e w' => e = .returned (.int .i64 (m.step ⟨op, i, n, b, keep⟩).2) ∧ After B a g own w w' (m.step ⟨op, i, n, b, keep⟩).1 := by
  have hb1 : Below w.heap.size w (w.alloc (.cells #[.int .i64 op, .int .i64 i, .int .i64 n, .slice bq bl bc, .slice kq kl kc] 35)) := (Below.refl _ _).alloc (Nat.le_refl _) _
  have h1 := h.below hb1
  have hB1 := Nat.le_trans hB hb1.size
  have hf := hm.few hs
  have hr := hm.r0
  have hy := hb.below' hb1
  have hz := hk.below' hb1
  have hlb := hb.len
  have hX : ∀ R : PD × Int, m.step ⟨op, i, n, b, keep⟩ = R → (Calls Try.prog 15 #[.pointer (some ⟨g, 0, none⟩), .agg #[.int .i64 op, .int .i64 i, .int .i64 n, .slice bq bl bc, .slice kq kl kc]] w fun e w' => e = .returned (.int .i64 R.2) ∧ After B a g own w w' R.1) → (Calls Try.prog 15 #[.pointer (some ⟨g, 0, none⟩), .agg #[.int .i64 op, .int .i64 i, .int .i64 n, .slice bq bl bc, .slice kq kl kc]] w fun e w' => e = .returned (.int .i64 (m.step ⟨op, i, n, b, keep⟩).2) ∧ After B a g own w w' (m.step ⟨op, i, n, b, keep⟩).1) := by
    rintro R rfl h
    exact h
  cases q7 : (wrap64 ((IntKind.u64.wrap op).tmod 9) == 7) with
  | true =>
    have q4 : (wrap64 ((IntKind.u64.wrap op).tmod 9) == 4) = false := beq_other q7 rfl
    have q5 : (wrap64 ((IntKind.u64.wrap op).tmod 9) == 5) = false := beq_other q7 rfl
    have q6 : (wrap64 ((IntKind.u64.wrap op).tmod 9) == 6) = false := beq_other q7 rfl
    refine hX ({ m with down := false }, 0) (if_pos q7) ?_
    have hC := Start_ok _ B own a g d m h1 hr
    clear hX h h1 hy hz hb hk
    go_enter Try.func15, Try.ntmps15
    go_wp2_with fail
    refine hC.mono ?_
    rintro e w2 ⟨rfl, hA, hc⟩
    go_wp2_with fail
    go_ret
    exact ⟨rfl, (After.one hA hc).before hb1⟩
  | false =>
    have n7 : ¬ (wrap64 ((IntKind.u64.wrap op).tmod 9) == 7) = true := by rw [q7]; decide
    cases hd : m.down with
    | true =>
      refine hX (m, 50) ((if_neg n7).trans (if_pos hd)) ?_
      have hFb := file_bad _ B own a g d m h1 hr i (Or.inl hd)
      have hFc := file_bad _ B own a g d m (h1.alloc (.cells #[.slice bq bl bc] 32)) hr i (Or.inl hd)
      rw [hd] at hFb hFc
      have cS := Sync_bad _ g i _ (badE_ne true) hFb
      have cC := Clear_bad _ g i _ (badE_ne true) hFb
      have cA := Append_bad _ g i _ (badE_ne true) bq bl bc hFc
      have cK := Crash_down _ B own a g d m h1 hr hd kq kl kc
      have cR := Arm_down _ B own a g d m h1 hr hd n kq kl kc
      clear hX h1 hy hz hb hk hFb hFc
      cases q4 : (wrap64 ((IntKind.u64.wrap op).tmod 9) == 4) with
      | true =>
        clear cS cA cK cR
        go_enter Try.func15, Try.ntmps15
        go_wp2_with fail
        refine cC.mono ?_
        rintro e w2 ⟨rfl, hb2⟩
        have hA := After.same h (hb1.trans (hb2.mono hb1.size))
        clear h
        go_wp2_with fail
        go_ret
        exact ⟨rfl, hA⟩
      | false =>
        cases q5 : (wrap64 ((IntKind.u64.wrap op).tmod 9) == 5) with
        | true =>
          clear cC cA cK cR
          go_enter Try.func15, Try.ntmps15
          go_wp2_with fail
          refine cS.mono ?_
          rintro e w2 ⟨rfl, hb2⟩
          have hA := After.same h (hb1.trans (hb2.mono hb1.size))
          clear h
          go_wp2_with fail
          go_ret
          exact ⟨rfl, hA⟩
        | false =>
          cases q6 : (wrap64 ((IntKind.u64.wrap op).tmod 9) == 6) with
          | true =>
            clear cC cA cS cR
            have hA := After.same h hb1
            clear h
            go_enter Try.func15, Try.ntmps15
            go_wp2_with fail
            refine cK.mono ?_
            rintro e w2 ⟨rfl, rfl⟩
            go_wp2_with fail
            go_ret
            exact ⟨rfl, hA⟩
          | false =>
            cases q8 : (wrap64 ((IntKind.u64.wrap op).tmod 9) == 8) with
            | true =>
              clear cC cA cS cK
              have hA := After.same h hb1
              clear h
              go_enter Try.func15, Try.ntmps15
              go_wp2_with fail
              refine cR.mono ?_
              rintro e w2 ⟨rfl, rfl⟩
              go_wp2_with fail
              go_ret
              exact ⟨rfl, hA⟩
            | false =>
              clear cC cR cS cK
              go_enter Try.func15, Try.ntmps15
              go_wp2_with fail
              refine cA.mono ?_
              rintro e w2 ⟨rfl, hb2⟩
              have hA := After.same h (hb1.trans (hb2.mono hb1.size))
              clear h
              go_wp2_with fail
              go_ret
              exact ⟨rfl, hA⟩
    | false =>
      have nd : ¬ m.down = true := by rw [hd]; decide
      cases q6 : (wrap64 ((IntKind.u64.wrap op).tmod 9) == 6) with
      | true =>
        have q4 : (wrap64 ((IntKind.u64.wrap op).tmod 9) == 4) = false := beq_other q6 rfl
        have q5 : (wrap64 ((IntKind.u64.wrap op).tmod 9) == 5) = false := beq_other q6 rfl
        refine hX (m.fall keep, 0) ((if_neg n7).trans ((if_neg nd).trans (if_pos q6))) ?_
        have hC := Crash_gen _ B own a g d m h1 hr hd hf kq kl kc keep hz hkg (by omega)
        clear hX h h1 hy hz hb hk
        go_enter Try.func15, Try.ntmps15
        go_wp2_with fail
        refine hC.mono ?_
        rintro e w2 ⟨rfl, d2, hA, hc⟩
        go_wp2_with fail
        go_ret
        exact ⟨rfl, (After.one hA hc).before hb1⟩
      | false =>
        have n6 : ¬ (wrap64 ((IntKind.u64.wrap op).tmod 9) == 6) = true := by rw [q6]; decide
        cases q8 : (wrap64 ((IntKind.u64.wrap op).tmod 9) == 8) with
        | true =>
          have q4 : (wrap64 ((IntKind.u64.wrap op).tmod 9) == 4) = false := beq_other q8 rfl
          have q5 : (wrap64 ((IntKind.u64.wrap op).tmod 9) == 5) = false := beq_other q8 rfl
          by_cases hn : n < 1
          · refine hX (m, 1) ((if_neg n7).trans ((if_neg nd).trans ((if_neg n6).trans ((if_pos q8).trans (if_pos hn))))) ?_
            have hC := Arm_low _ B own a g d m h1 hr hd n hn kq kl kc
            have hA := After.same h hb1
            clear hX h h1 hy hz hb hk
            go_enter Try.func15, Try.ntmps15
            go_wp2_with fail
            refine hC.mono ?_
            rintro e w2 ⟨rfl, rfl⟩
            go_wp2_with fail
            go_ret
            exact ⟨rfl, hA⟩
          · refine hX ({ m with left := n.toNat, keep := keep }, 0) ((if_neg n7).trans ((if_neg nd).trans ((if_neg n6).trans ((if_pos q8).trans (if_neg hn))))) ?_
            obtain ⟨N, rfl⟩ := Int.eq_ofNat_of_zero_le (show 0 ≤ n by omega)
            have hC := Arm_ok _ B own a g d m h1 hr hd N (by omega) kq kl kc keep hz (by omega)
            clear hX h h1 hy hz hb hk
            go_enter Try.func15, Try.ntmps15
            go_wp2_with fail
            refine hC.mono ?_
            rintro e w2 ⟨rfl, d2, hA, hc⟩
            go_wp2_with fail
            go_ret
            exact ⟨rfl, (After.one hA hc).before hb1⟩
        | false =>
          have n8 : ¬ (wrap64 ((IntKind.u64.wrap op).tmod 9) == 8) = true := by rw [q8]; decide
          by_cases hi : i < 0 ∨ 8 ≤ i
          · refine hX (m, 51) ((if_neg n7).trans ((if_neg nd).trans ((if_neg n6).trans ((if_neg n8).trans (if_pos hi))))) ?_
            have hFb := file_bad _ B own a g d m h1 hr i (Or.inr hi)
            have hFc := file_bad _ B own a g d m (h1.alloc (.cells #[.slice bq bl bc] 32)) hr i (Or.inr hi)
            rw [hd] at hFb hFc
            have cS := Sync_bad _ g i _ (badE_ne false) hFb
            have cC := Clear_bad _ g i _ (badE_ne false) hFb
            have cA := Append_bad _ g i _ (badE_ne false) bq bl bc hFc
            clear hX h1 hy hz hb hk hFb hFc hi
            cases q4 : (wrap64 ((IntKind.u64.wrap op).tmod 9) == 4) with
            | true =>
              clear cS cA
              go_enter Try.func15, Try.ntmps15
              go_wp2_with fail
              refine cC.mono ?_
              rintro e w2 ⟨rfl, hb2⟩
              have hA := After.same h (hb1.trans (hb2.mono hb1.size))
              clear h
              go_wp2_with fail
              go_ret
              exact ⟨rfl, hA⟩
            | false =>
              cases q5 : (wrap64 ((IntKind.u64.wrap op).tmod 9) == 5) with
              | true =>
                clear cC cA
                go_enter Try.func15, Try.ntmps15
                go_wp2_with fail
                refine cS.mono ?_
                rintro e w2 ⟨rfl, hb2⟩
                have hA := After.same h (hb1.trans (hb2.mono hb1.size))
                clear h
                go_wp2_with fail
                go_ret
                exact ⟨rfl, hA⟩
              | false =>
                clear cC cS
                go_enter Try.func15, Try.ntmps15
                go_wp2_with fail
                refine cA.mono ?_
                rintro e w2 ⟨rfl, hb2⟩
                have hA := After.same h (hb1.trans (hb2.mono hb1.size))
                clear h
                go_wp2_with fail
                go_ret
                exact ⟨rfl, hA⟩
          · obtain ⟨I, rfl⟩ := Int.eq_ofNat_of_zero_le (show 0 ≤ i by omega)
            have hI : I < 8 := by omega
            have base := fun (R : PD × Int) (hR : (if (wrap64 ((IntKind.u64.wrap op).tmod 9) == 4) = true then (m.clearAt I, goneE (m.gone 1)) else if (wrap64 ((IntKind.u64.wrap op).tmod 9) == 5) = true then (m.syncAt I, goneE (m.gone 1)) else if m.room < m.used + b.length then (m, 7) else (m.putAt I b, goneE (m.gone b.length))) = R) => hX R ((if_neg n7).trans ((if_neg nd).trans ((if_neg n6).trans ((if_neg n8).trans ((if_neg hi).trans hR)))))
            clear hX
            cases q4 : (wrap64 ((IntKind.u64.wrap op).tmod 9) == 4) with
            | true =>
              refine base _ (if_pos q4) ?_
              have hC := Clear_ok _ B own a g d m h1 hr hd hf I hI
              clear base h h1 hy hz hb hk hi
              go_enter Try.func15, Try.ntmps15
              go_wp2_with fail
              refine hC.mono ?_
              rintro e w2 ⟨rfl, hA⟩
              have hA2 := (After.file hI hA).before hb1
              clear hA
              go_wp2_with fail
              go_ret
              exact ⟨rfl, hA2⟩
            | false =>
              have n4 : ¬ (wrap64 ((IntKind.u64.wrap op).tmod 9) == 4) = true := by rw [q4]; decide
              cases q5 : (wrap64 ((IntKind.u64.wrap op).tmod 9) == 5) with
              | true =>
                refine base _ ((if_neg n4).trans (if_pos q5)) ?_
                have hC := Sync_ok _ B own a g d m h1 hr hd hf I hI
                clear base h h1 hy hz hb hk hi
                go_enter Try.func15, Try.ntmps15
                go_wp2_with fail
                refine hC.mono ?_
                rintro e w2 ⟨rfl, hA⟩
                have hA2 := (After.file hI hA).before hb1
                clear hA
                go_wp2_with fail
                go_ret
                exact ⟨rfl, hA2⟩
              | false =>
                have n5 : ¬ (wrap64 ((IntKind.u64.wrap op).tmod 9) == 5) = true := by rw [q5]; decide
                by_cases hu : m.room < m.used + b.length
                · refine base _ ((if_neg n4).trans ((if_neg n5).trans (if_pos hu))) ?_
                  have hC := Append_full _ B own a g d m h1 hr hd hf I hI bq bl bc (by omega) (by rw [← hlb]; exact hu) hm.r1
                  clear base h1 hy hz hb hk hi
                  go_enter Try.func15, Try.ntmps15
                  go_wp2_with fail
                  refine hC.mono ?_
                  rintro e w2 ⟨rfl, hb2⟩
                  have hA := After.same h (hb1.trans (hb2.mono hb1.size))
                  clear h
                  go_wp2_with fail
                  go_ret
                  exact ⟨rfl, hA⟩
                · refine base _ ((if_neg n4).trans ((if_neg n5).trans (if_neg hu))) ?_
                  have hC := Append_gen _ B own a g d m h1 hr hd hf hB1 I hI bq bl bc b hy hbg (by omega) (by rw [← hlb]; omega) hm.r1
                  rw [← hlb] at hC
                  clear base h h1 hy hz hb hk hi
                  rw [hlb] at hC
                  have HG : Hid (b.length = bl) := hlb
                  clear hlb
                  go_enter Try.func15, Try.ntmps15
                  go_wp2_with fail
                  refine hC.mono ?_
                  rintro e w2 ⟨rfl, hA⟩
                  have hA2 := (After.file hI hA).before hb1
                  clear hA
                  go_wp2_with fail
                  go_ret
                  exact ⟨by rw [HG.out]; rfl, by unfold PD.putAt; rw [HG.out]; exact hA2⟩

end Go.Proofs.Ytcgpdaalehgjdaa.M
