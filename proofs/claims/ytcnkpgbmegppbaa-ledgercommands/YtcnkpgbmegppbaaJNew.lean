/-
  Own text: the contract of New.
-/
import Derived.Test.YtcnkpgbmegppbaaJAny
import Derived.Test.YtcnkpgbmegppbaaYFirst2
namespace Go.Proofs.Ytcnkpgbmegppbaa.M
open Go.ChangeShapes Go.WideShapes Go.ChangeAt Go.RowKit

def FirstIs (n : Nat) (ms : List Mb) (R : CR) : Prop := ∀ (p : Option Addr) (c : Nat) (w : World), RdM w p n c ms → Calls Try.prog 41 #[.slice p n c] w fun r w' => ∃ v, r = .returned v ∧ Told w.heap.size w' v R ∧ Below w.heap.size w w'

theorem first_is (n : Nat) (ms : List Mb) (hl : ms.length = n) (hn : n ≤ 60) : ∃ R, FirstIs n ms R ∧ (R = .error 80 ∨ ∃ M, R = .ok (1, M) ∧ chk 1 M = true ∧ M.length = n) := by
  rcases Nat.eq_zero_or_pos n with h0 | h0
  · subst h0
    exact ⟨.error 80, fun p c w hr => First_none p c ms w hr, Or.inl rfl⟩
  by_cases h6 : 6 < n
  · exact ⟨.error 80, fun p c w hr => First_many p n c ms w hr (by omega) h6, Or.inl rfl⟩
  refine ⟨firstR ms, fun p c w hr => First_few p n c ms w hr (by omega) h0, ?_⟩
  unfold firstR
  split
  · exact Or.inl rfl
  · split
    · exact Or.inl rfl
    · next hk =>
      exact Or.inr ⟨_, rfl, by simpa using hk, by rw [outS_len]; exact hl⟩

set_option maxRecDepth 20000 in
set_option maxHeartbeats 2000000 in
theorem New_bad (p : Option Addr) (n c : Nat) (ms : List Mb) (w : World) (hr : RdM w p n c ms) (hF : FirstIs n ms (.error 80)) :
    Calls Try.prog 17 #[.slice p n c] w fun r w' => r = .returned (.tuple #[.pointer none, .int .i64 80]) ∧ Below w.heap.size w w' := by
  have g1 := hF p c w hr
  clear hr hF
  go_enter Try.func17, Try.ntmps17
  go_wp2_with fail
  refine g1.mono ?_
  rintro r w1 ⟨v, rfl, hT, hb1⟩
  have hv : v = .tuple #[.agg #[.int .i64 0, .slice none 0 0], .int .i64 80] := hT
  subst hv
  clear g1 hT
  go_wp2_with fail
  go_ret2
  exact ⟨rfl, hb1.trans ((below_alloc _ _).mono hb1.size)⟩

theorem PL.first_ok {M : List Mb} (h : Hid (chk 1 M = true)) : (⟨1, M, 0, [(1, M)]⟩ : PL).ok := ⟨h.out, rfl, Int.le_refl _, by show (0 : Int) ≤ _; omega⟩

theorem LP.born (w : World) (q : Option Addr) (N c : Nat) (M : List Mb) (hr : RdM w q N c M) :
    LP ((w.alloc (.cells #[.int .i64 1, .slice q N c] 42)).alloc (.cells #[.slice (some ⟨w.heap.size, 0, none⟩) 1 1, .int .i64 1, .slice q N c, .int .i64 0] 82)) (w.heap.size + 1) w.heap.size ⟨1, M, 0, [(1, M)]⟩ := by
  have h1 := below_alloc w (.cells #[.int .i64 1, .slice q N c] 42)
  have h2 := below_alloc (w.alloc (.cells #[.int .i64 1, .slice q N c] 42)) (.cells #[.slice (some ⟨w.heap.size, 0, none⟩) 1 1, .int .i64 1, .slice q N c, .int .i64 0] 82)
  have hb := h1.trans (h2.mono h1.size)
  have hx : (⟨1, q, N, c, M⟩ : HE).rd ((w.alloc (.cells #[.int .i64 1, .slice q N c] 42)).alloc (.cells #[.slice (some ⟨w.heap.size, 0, none⟩) 1 1, .int .i64 1, .slice q N c, .int .i64 0] 82)) (w.heap.size + 1) w.heap.size :=
    ⟨hr.below hb, fun a ha h0 => by have : a.block < w.heap.size := rd_lt hr ha h0; exact ⟨by omega, by omega⟩⟩
  refine ⟨1, ⟨1, q, N, c, M⟩, [⟨1, q, N, c, M⟩], ⟨?_, ⟨rfl, Or.inr ⟨w.heap.size, 1, #[.int .i64 1, .slice q N c], rfl, Nat.zero_le _, ?_, Nat.le_refl _, by decide, rfl, rfl⟩⟩, by omega, hx, fun h hh => by rw [List.mem_singleton.1 hh]; exact hx, Nat.zero_lt_one⟩, rfl, rfl⟩
  · have := At.new 82 (w.alloc (.cells #[.int .i64 1, .slice q N c] 42)) #[.slice (some ⟨w.heap.size, 0, none⟩) 1 1, .int .i64 1, .slice q N c, .int .i64 0]
    refine At.moved ?_ this
    simp
  · exact (At.new 42 w #[.int .i64 1, .slice q N c]).below h2

set_option maxRecDepth 20000 in
set_option maxHeartbeats 2000000 in
theorem New_ok (p : Option Addr) (n c : Nat) (ms : List Mb) (w : World) (hr : RdM w p n c ms) (M : List Mb) (hF : FirstIs n ms (.ok (1, M))) :
    Calls Try.prog 17 #[.slice p n c] w fun r w' => ∃ v, r = .returned v ∧ ∃ g r, v = .tuple #[.pointer (some ⟨g, 0, none⟩), .int .i64 0] ∧ LP w' g r ⟨1, M, 0, [(1, M)]⟩ ∧ w.heap.size ≤ g ∧ w.heap.size ≤ r ∧ Below w.heap.size w w' := by
  have g1 := hF p c w hr
  clear hr hF
  go_enter Try.func17, Try.ntmps17
  go_wp2_with fail
  refine g1.mono ?_
  rintro r w1 ⟨v, rfl, hT, hb1⟩
  obtain ⟨q, d, hv, _, hrM⟩ := hT
  subst hv
  have hba := below_alloc w1 (.cells #[.int .i64 1, .slice q M.length d] 42)
  have hB := hb1.trans (hba.mono hb1.size)
  have hL := LP.born _ q M.length d M (hrM.below hba)
  have hC := At.new 42 w1 #[.int .i64 1, .slice q M.length d]
  obtain ⟨c0, c1⟩ := hC.two
  have hB2 := (hB.trans ((below_alloc _ (.cells #[.int .i64 1, .slice q M.length d] 42)).mono hB.size))
  have hB3 := (hB2.trans ((below_alloc _ (.cells #[.slice (some ⟨(w1.alloc (.cells #[.int .i64 1, .slice q M.length d] 42)).heap.size, 0, none⟩) 1 1, .int .i64 1, .slice q M.length d, .int .i64 0] 82)).mono hB2.size))
  have hs := hB.size
  clear g1 hrM hb1 hba hC
  go_wp2_with fail
  go_ret2
  simp only [World.size_alloc] at hL hB3 hs ⊢
  exact ⟨_, rfl, _, _, rfl, hL, by omega, hs, hB3⟩

end Go.Proofs.Ytcnkpgbmegppbaa.M
