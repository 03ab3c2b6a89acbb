/-
  Own text: contracts of ledger's Put, and of the reference's.
-/
import Derived.Test.YtcnkpgbmegppbaaJCmd2
import Derived.Test.YtcnkpgbmegppbaaJArr
import Derived.Test.YtcnkpgbmegppbaaRef
namespace Go.Proofs.Ytcnkpgbmegppbaa.M
open Go.ChangeShapes Go.WideShapes Go.ChangeAt Go.RowKit

theorem cmd_lim {k n s e : Int} (h : cmdOk k n s e = true) : (1 ≤ k ∧ k ≤ 5) ∧ (0 ≤ n ∧ n ≤ 5) ∧ (0 ≤ s ∧ s ≤ 2) ∧ 1 ≤ e ∧ e ≤ 1099511627776 := by
  unfold cmdOk at h
  simp at h
  omega

theorem ow_lower {k : IntKind} {e : TypeId} {w : World} {B B' : Nat} {p : Option Addr} {n c : Nat} {xs : List Int} (h : Ow k e w B p n c xs) (hb : B' ≤ B) : Ow k e w B' p n c xs := by
  refine ⟨h.len, ?_⟩
  rcases h.own with h1 | h1
  · exact Or.inl h1
  · refine Or.inr ⟨h1.1, ?_⟩
    rcases h1.2 with h2 | ⟨g, cap, cur, hv, hg, r⟩
    · exact Or.inl h2
    · exact Or.inr ⟨g, cap, cur, hv, Nat.le_trans hb hg, r⟩

set_option maxRecDepth 20000 in
set_option maxHeartbeats 4000000 in
theorem lPut_no (k n s e : Int) (w : World) (h : cmdOk k n s e = false) :
    Calls Try.prog 9 #[.agg #[.int .i64 k, .int .i64 n, .int .i64 s, .int .i64 e]] w fun r w' => r = .returned (.tuple #[.slice none 0 0, .int .i64 120]) ∧ Below w.heap.size w w' := by
  have hba := below_alloc w (.cells #[.int .i64 k, .int .i64 n, .int .i64 s, .int .i64 e] 23)
  have hC := At.new 23 w #[.int .i64 k, .int .i64 n, .int .i64 s, .int .i64 e]
  obtain ⟨c0, c1, c2, c3⟩ := hC.four
  have g1 := lCheck_any k n s e (w.alloc (.cells #[.int .i64 k, .int .i64 n, .int .i64 s, .int .i64 e] 23))
  rw [h] at g1
  unfold cmdV at g1
  simp only [Bool.false_eq_true, if_false] at g1
  clear h
  go_enter Try.func9, Try.ntmps9
  go_wp2_with fail
  refine g1.mono ?_
  rintro r w1 ⟨rfl, hb1⟩
  clear g1
  go_wp2_with fail
  go_ret2
  exact ⟨rfl, hba.trans (hb1.mono hba.size)⟩

set_option maxRecDepth 20000 in
set_option maxHeartbeats 4000000 in
theorem lPut_ok (k n s e : Int) (w : World) (h : cmdOk k n s e = true) :
    Calls Try.prog 9 #[.agg #[.int .i64 k, .int .i64 n, .int .i64 s, .int .i64 e]] w fun r w' => ∃ v, r = .returned v ∧ ∃ p c, v = .tuple #[.slice p (putAll [k, n, s, e]).length c, .int .i64 0] ∧ Ow .u8 5 w' w.heap.size p (putAll [k, n, s, e]).length c (putAll [k, n, s, e]) ∧ Below w.heap.size w w' := by
  have hba := below_alloc w (.cells #[.int .i64 k, .int .i64 n, .int .i64 s, .int .i64 e] 23)
  have hC := At.new 23 w #[.int .i64 k, .int .i64 n, .int .i64 s, .int .i64 e]
  have g1 := lCheck_any k n s e (w.alloc (.cells #[.int .i64 k, .int .i64 n, .int .i64 s, .int .i64 e] 23))
  have hlim := cmd_lim h
  rw [h] at g1
  unfold cmdV at g1
  simp only [if_true] at g1
  have k1 : IntKind.u64.wrap k = k := by rw [IntKind.wrap_u64]; omega
  have k2 : IntKind.u64.wrap n = n := by rw [IntKind.wrap_u64]; omega
  have k3 : IntKind.u64.wrap s = s := by rw [IntKind.wrap_u64]; omega
  have k4 : IntKind.u64.wrap e = e := by rw [IntKind.wrap_u64]; omega
  have hWd : Wd [k, n, s, e] := by
    intro x hx
    simp only [List.mem_cons, List.not_mem_nil, or_false] at hx
    rcases hx with rfl | rfl | rfl | rfl <;> omega
  obtain ⟨c0, c1, c2, c3⟩ := hC.four
  obtain ⟨L, HL⟩ : ∃ L, Hid (putAll [k, n, s, e] = L) := ⟨_, rfl⟩
  rw [HL.out]
  clear h hlim
  go_enter Try.func9, Try.ntmps9
  go_wp2_with fail
  refine g1.mono ?_
  rintro r w1 ⟨rfl, hb1⟩
  have hB := hba.trans (hb1.mono hba.size)
  have hC1 := hC.below hb1
  clear g1 c0 c1 c2 c3 hC hba hb1
  obtain ⟨c0, c1, c2, c3⟩ := hC1.four
  have hb2 := below_alloc w1 (.cells #[.int .u64 k, .int .u64 n, .int .u64 s, .int .u64 e] 50)
  have hB2 := hB.trans (hb2.mono hB.size)
  have hR := Rd.four .u64 w1 50 k n s e
  have g2 := put_any none 0 0 [] _ 4 4 [k, n, s, e] _ (Rd.empty _ _ _ _ (fun _ => rfl)) hR hWd (by omega) (by omega)
  simp only [Nat.zero_add, List.nil_append] at g2
  rw [HL.out] at g2
  have hs := hB2.size
  clear hC1 hR hWd
  go_wp2_with fail
  refine g2.mono ?_
  rintro r w2 ⟨p2, c2', rfl, ho, hb3⟩
  clear g2
  go_wp2_with fail
  go_ret2
  exact ⟨_, rfl, _, _, rfl, ow_lower ho hs, hB2.trans (hb3.mono hs)⟩

set_option maxRecDepth 20000 in
set_option maxHeartbeats 4000000 in
theorem rPut_no (k n s e : Int) (w : World) (h : cmdOk k n s e = false) :
    Calls Try.prog 10 #[.agg #[.int .i64 k, .int .i64 n, .int .i64 s, .int .i64 e]] w fun r w' => r = .returned (.tuple #[.slice none 0 0, .int .i64 120]) ∧ Below w.heap.size w w' := by
  have hba := below_alloc w (.cells #[.int .i64 k, .int .i64 n, .int .i64 s, .int .i64 e] 23)
  have hC := At.new 23 w #[.int .i64 k, .int .i64 n, .int .i64 s, .int .i64 e]
  obtain ⟨c0, c1, c2, c3⟩ := hC.four
  have g1 := rCheck_any k n s e (w.alloc (.cells #[.int .i64 k, .int .i64 n, .int .i64 s, .int .i64 e] 23))
  rw [h] at g1
  unfold cmdV at g1
  simp only [Bool.false_eq_true, if_false] at g1
  clear h
  go_enter Try.func10, Try.ntmps10
  go_wp2_with fail
  refine g1.mono ?_
  rintro r w1 ⟨rfl, hb1⟩
  clear g1
  go_wp2_with fail
  go_ret2
  exact ⟨rfl, hba.trans (hb1.mono hba.size)⟩

set_option maxRecDepth 20000 in
set_option maxHeartbeats 4000000 in
theorem rPut_ok (k n s e : Int) (w : World) (h : cmdOk k n s e = true) :
    Calls Try.prog 10 #[.agg #[.int .i64 k, .int .i64 n, .int .i64 s, .int .i64 e]] w fun r w' => ∃ v, r = .returned v ∧ ∃ p c, v = .tuple #[.slice p (putAll [k, n, s, e]).length c, .int .i64 0] ∧ Ow .u8 5 w' w.heap.size p (putAll [k, n, s, e]).length c (putAll [k, n, s, e]) ∧ Below w.heap.size w w' := by
  have hba := below_alloc w (.cells #[.int .i64 k, .int .i64 n, .int .i64 s, .int .i64 e] 23)
  have hC := At.new 23 w #[.int .i64 k, .int .i64 n, .int .i64 s, .int .i64 e]
  have g1 := rCheck_any k n s e (w.alloc (.cells #[.int .i64 k, .int .i64 n, .int .i64 s, .int .i64 e] 23))
  have hlim := cmd_lim h
  rw [h] at g1
  unfold cmdV at g1
  simp only [if_true] at g1
  have k1 : IntKind.u64.wrap k = k := by rw [IntKind.wrap_u64]; omega
  have k2 : IntKind.u64.wrap n = n := by rw [IntKind.wrap_u64]; omega
  have k3 : IntKind.u64.wrap s = s := by rw [IntKind.wrap_u64]; omega
  have k4 : IntKind.u64.wrap e = e := by rw [IntKind.wrap_u64]; omega
  have hWd : Wd [k, n, s, e] := by
    intro x hx
    simp only [List.mem_cons, List.not_mem_nil, or_false] at hx
    rcases hx with rfl | rfl | rfl | rfl <;> omega
  obtain ⟨c0, c1, c2, c3⟩ := hC.four
  obtain ⟨L, HL⟩ : ∃ L, Hid (putAll [k, n, s, e] = L) := ⟨_, rfl⟩
  rw [HL.out]
  clear h hlim
  go_enter Try.func10, Try.ntmps10
  go_wp2_with fail
  refine g1.mono ?_
  rintro r w1 ⟨rfl, hb1⟩
  have hB := hba.trans (hb1.mono hba.size)
  have hC1 := hC.below hb1
  clear g1 c0 c1 c2 c3 hC hba hb1
  obtain ⟨c0, c1, c2, c3⟩ := hC1.four
  have hb2 := below_alloc w1 (.cells #[.int .u64 k, .int .u64 n, .int .u64 s, .int .u64 e] 50)
  have hB2 := hB.trans (hb2.mono hB.size)
  have hR := Rd.four .u64 w1 50 k n s e
  have g2 := rput_any none 0 0 [] _ 4 4 [k, n, s, e] _ (Rd.empty _ _ _ _ (fun _ => rfl)) hR hWd (by omega) (by omega)
  simp only [Nat.zero_add, List.nil_append] at g2
  rw [HL.out] at g2
  have hs := hB2.size
  clear hC1 hR hWd
  go_wp2_with fail
  refine g2.mono ?_
  rintro r w2 ⟨p2, c2', rfl, ho, hb3⟩
  clear g2
  go_wp2_with fail
  go_ret2
  exact ⟨_, rfl, _, _, rfl, ow_lower ho hs, hB2.trans (hb3.mono hs)⟩

end Go.Proofs.Ytcnkpgbmegppbaa.M
