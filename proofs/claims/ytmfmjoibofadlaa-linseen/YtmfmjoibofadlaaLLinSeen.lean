/-
  Own text: the walk of LinSeen.
-/
import Derived.Test.YtmfmjoibofadlaaOAw
import Derived.Test.YtmfmjoibofadlaaOSeen
namespace Go.Proofs.Ytmfmjoibofadlaa.M
open Go.ChangeShapes Go.WideShapes Go.ChangeAt Go.RowKit
set_option linter.unusedSimpArgs false

theorem se_right (v t : ByteArray) {b : Int} (hb : 1 ≤ b) (hv : v.size ≤ 24) (ht : t.size ≤ 24) : rightO (seL v t b) = 0 := by
  unfold rightO
  rw [if_neg (by show ¬ 24 < 2; decide)]
  have h0 : (seW v b).no = false := by
    unfold Lo.no seW
    simp
    omega
  have h1 : (seR t b).no = false := by
    unfold Lo.no seR
    simp
    omega
  show (if ([seW v b, seR t b]).any Lo.no = true then (70 : Int) else 0) = 0
  rw [List.any_cons, List.any_cons, h0, h1]
  rfl

theorem se_big (v t : ByteArray) (b : Int) (hv : v.size ≤ 24) (ht : t.size ≤ 24) : ∀ i, ((seL v t b).getD i .z0).s.size ≤ 24 :=
  str_le _ fun l hl => by
    rcases List.mem_cons.1 hl with rfl | hl
    · exact hv
    · rcases List.mem_cons.1 hl with rfl | hl
      · exact ht
      · cases hl

set_option maxRecDepth 20000 in
set_option maxHeartbeats 1000000 in
theorem walk_LinSeen (w : World) (v t : ByteArray) (a : Int) :
    Calls Try.prog 8 #[.string v, .string t, .int .i64 a] w fun e w' => e = .returned (.bool true) ∧ Below w.heap.size w w' := by
  have hA := fun W => awake_any W
  by_cases h1 : 24 < v.size
  · have hi : (24 : Int) < (v.size : Int) := by omega
    go_enter Try.func8, Try.ntmps8
    go_wp2_with fail
    refine (hA _).mono ?_
    rintro e w1 ⟨rfl, hb1⟩
    clear hA
    go_wp2_with fail
    go_ret
    exact ⟨rfl, hb1⟩
  · have hi : ¬ (24 : Int) < (v.size : Int) := by omega
    by_cases h2 : 24 < t.size
    · have hj : (24 : Int) < (t.size : Int) := by omega
      go_enter Try.func8, Try.ntmps8
      go_wp2_with fail
      refine (hA _).mono ?_
      rintro e w1 ⟨rfl, hb1⟩
      clear hA
      go_wp2_with fail
      go_ret
      exact ⟨rfl, hb1⟩
    · have hj : ¬ (24 : Int) < (t.size : Int) := by omega
      go_enter Try.func8, Try.ntmps8
      go_wp2_with fail
      obtain ⟨b, hb1, hb2, hbe⟩ : ∃ b : Int, 1 ≤ b ∧ b ≤ 1000 ∧ wrap64 (1 + wrap64 ((IntKind.u64.wrap a).tmod 1000)) = b := by
        have h0 : 0 ≤ IntKind.u64.wrap a := by rw [IntKind.wrap_u64]; omega
        rw [Int.tmod_eq_emod_of_nonneg h0]
        generalize IntKind.u64.wrap a = z at h0
        refine ⟨1 + z % 1000, by omega, by omega, ?_⟩
        unfold wrap64
        omega
      rw [hbe, Go.IntWalk.wrap64_in (b + 1) (by omega), Go.IntWalk.wrap64_in (b + 2) (by omega), Go.IntWalk.wrap64_in (b + 3) (by omega)]
      obtain ⟨K, row, hF⟩ := found_seen v t hb1
      have hO := order_any _ 2 2 (seL v t b) _ (rdo2 w (seW v b) (seR t b)) (by decide) (by decide) (by show ([0] : List Int).length ≤ 1; decide) (se_big v t b (by omega) (by omega)) (se_right v t hb1 (by omega) (by omega)) 4 (by decide) _ _ _ hF
      have hb0 := below_alloc w (.cells #[.bool true, .string v, .int .i64 0, .int .i64 b, .int .i64 (b + 1), .bool false, .string t, .int .i64 0, .int .i64 (b + 2), .int .i64 (b + 3)] 29)
      clear hF hbe
      dsimp only [seW, seR] at hO
      generalize hz : (v.toList == t.toList) = z at hO
      refine hO.mono ?_
      rintro e1 w1 ⟨q, k, d, rfl, _, hb3⟩
      have hbb := hb0.trans (hb3.mono hb0.size)
      clear hO hb0 hb3
      go_wp2_with fail
      refine (hA _).mono ?_
      rintro e2 w2 ⟨rfl, hb4⟩
      have hbb4 := hbb.trans (hb4.mono hbb.size)
      clear hA
      go_wp2_with fail
      go_ret
      exact ⟨rfl, hbb4⟩

end Go.Proofs.Ytmfmjoibofadlaa.M
