/-
  Own text: route's Read, Near and Write answer as the reference's, of any chain, ways and sites.
-/
import Derived.Test.YtdjeafaaclhpkaaZAwake
namespace Go.Proofs.Ytdjeafaaclhpkaa.M
open Go.ChangeShapes Go.WideShapes Go.ChangeAt Go.RowKit

theorem may_zero {e : Int} {ms : List Mb} {xs : List Int} {st : Int} (h : mayR e ms xs st = 0) : chk e ms = true ∧ okW xs = true ∧ ∃ i0 : Nat, i0 < 3 ∧ st = (i0 : Int) := by
  unfold mayR at h
  split at h
  · next h1 =>
    split at h
    · next h2 =>
      refine ⟨h1, h2.1, ?_⟩
      have h3 := h2.2
      unfold isSt at h3
      simp at h3
      exact ⟨st.toNat, by omega, by omega⟩
    · cases h
  · cases h

theorem Read_both (e : Int) (n : Nat) (ms : List Mb) (a0 a1 a2 a3 a4 a5 a6 a7 a8 st node mm : Int) (tail : Bool) (hl : ms.length = n) (hn : n ≤ 5864062014805) : ∃ V E : Int,
    (∀ (p : Option Addr) (c : Nat) (w : World), RdM w p n c ms → Calls Try.prog 21 #[.agg #[.int .i64 e, .slice p n c], .agg #[.int .i64 a0, .int .i64 a1, .int .i64 a2, .int .i64 a3, .int .i64 a4, .int .i64 a5, .int .i64 a6, .int .i64 a7, .int .i64 a8], .int .i64 st, .int .i64 node, .bool tail, .int .i64 mm] w fun r w' => r = .returned (.tuple #[.int .i64 V, .int .i64 E]) ∧ Below w.heap.size w w') ∧
    (∀ (p : Option Addr) (c : Nat) (w : World), RdM w p n c ms → Calls Try.prog 22 #[.agg #[.int .i64 e, .slice p n c], .agg #[.int .i64 a0, .int .i64 a1, .int .i64 a2, .int .i64 a3, .int .i64 a4, .int .i64 a5, .int .i64 a6, .int .i64 a7, .int .i64 a8], .int .i64 st, .int .i64 node, .bool tail, .int .i64 mm] w fun r w' => r = .returned (.tuple #[.int .i64 V, .int .i64 E]) ∧ Below w.heap.size w w') := by
  by_cases h : mayR e ms [a0, a1, a2, a3, a4, a5, a6, a7, a8] st = 0
  · obtain ⟨hk, hw, i0, hi0, rfl⟩ := may_zero h
    by_cases hx : plc e ms node = -1 ∨ isSt mm = false
    · exact ⟨0, 81, fun p c w hr => Read_81 e p n c ms a0 a1 a2 a3 a4 a5 a6 a7 a8 i0 hi0 hk hw node mm tail hx w hr hn, fun p c w hr => rRead_81 e p n c ms a0 a1 a2 a3 a4 a5 a6 a7 a8 i0 hi0 hk hw node mm tail hx w hr hn⟩
    · have hb := plc_bounds e ms node
      have hp : 0 ≤ plc e ms node ∧ plc e ms node < ms.length := by
        rcases hb with hb | hb
        · exact absurd (Or.inl hb) hx
        · exact hb
      obtain ⟨k, hkk⟩ := Int.eq_ofNat_of_zero_le hp.1
      have hm : isSt mm = true := by
        cases hq : isSt mm with
        | true => rfl
        | false => exact absurd (Or.inr hq) hx
      unfold isSt at hm
      simp at hm
      obtain ⟨m, rfl⟩ := Int.eq_ofNat_of_zero_le hm.1
      exact ⟨_, 0, fun p c w hr => Read_ok e p n c ms a0 a1 a2 a3 a4 a5 a6 a7 a8 i0 hi0 hk hw node k hkk (by omega) tail m (by omega) w hr hn, fun p c w hr => rRead_ok e p n c ms a0 a1 a2 a3 a4 a5 a6 a7 a8 i0 hi0 hk hw node k hkk (by omega) tail m (by omega) w hr hn⟩
  · exact ⟨0, _, fun p c w hr => Read_no e p n c ms a0 a1 a2 a3 a4 a5 a6 a7 a8 st _ node mm tail rfl h w hr hn, fun p c w hr => rRead_no e p n c ms a0 a1 a2 a3 a4 a5 a6 a7 a8 st _ node mm tail rfl h w hr hn⟩

theorem Near_both (e : Int) (n : Nat) (ms : List Mb) (a0 a1 a2 a3 a4 a5 a6 a7 a8 st : Int) (hl : ms.length = n) (hn : n ≤ 5864062014805) : ∃ (m : Nat) (l : List Int) (V E : Int), m ≤ 6 ∧
    (∀ (p : Option Addr) (c : Nat) (w : World), RdM w p n c ms → Calls Try.prog 15 #[.agg #[.int .i64 e, .slice p n c], .agg #[.int .i64 a0, .int .i64 a1, .int .i64 a2, .int .i64 a3, .int .i64 a4, .int .i64 a5, .int .i64 a6, .int .i64 a7, .int .i64 a8], .int .i64 st] w fun r w' => ∃ q d, r = .returned (.tuple #[.slice q m d, .int .i64 E]) ∧ Rd .i64 w' q m d l ∧ Below w.heap.size w w') ∧
    (∀ (p : Option Addr) (c : Nat) (w : World), RdM w p n c ms → Calls Try.prog 16 #[.agg #[.int .i64 e, .slice p n c], .agg #[.int .i64 a0, .int .i64 a1, .int .i64 a2, .int .i64 a3, .int .i64 a4, .int .i64 a5, .int .i64 a6, .int .i64 a7, .int .i64 a8], .int .i64 st] w fun r w' => ∃ q d, r = .returned (.tuple #[.slice q m d, .int .i64 E]) ∧ Rd .i64 w' q m d l ∧ Below w.heap.size w w') ∧
    (∀ (p : Option Addr) (c : Nat) (w : World), RdM w p n c ms → Calls Try.prog 17 #[.agg #[.int .i64 e, .slice p n c], .agg #[.int .i64 a0, .int .i64 a1, .int .i64 a2, .int .i64 a3, .int .i64 a4, .int .i64 a5, .int .i64 a6, .int .i64 a7, .int .i64 a8], .int .i64 st] w fun r w' => r = .returned (.tuple #[.int .i64 V, .int .i64 E]) ∧ Below w.heap.size w w') ∧
    (∀ (p : Option Addr) (c : Nat) (w : World), RdM w p n c ms → Calls Try.prog 18 #[.agg #[.int .i64 e, .slice p n c], .agg #[.int .i64 a0, .int .i64 a1, .int .i64 a2, .int .i64 a3, .int .i64 a4, .int .i64 a5, .int .i64 a6, .int .i64 a7, .int .i64 a8], .int .i64 st] w fun r w' => r = .returned (.tuple #[.int .i64 V, .int .i64 E]) ∧ Below w.heap.size w w') := by
  by_cases h : mayR e ms [a0, a1, a2, a3, a4, a5, a6, a7, a8] st = 0
  · obtain ⟨hk, hw, i0, hi0, rfl⟩ := may_zero h
    refine ⟨n, _, _, 0, hl ▸ chk_six hk, fun p c w hr => ?_, fun p c w hr => rNear_ok e p n c ms a0 a1 a2 a3 a4 a5 a6 a7 a8 i0 hi0 hk hw w hr hn, fun p c w hr => Write_ok e p n c ms a0 a1 a2 a3 a4 a5 a6 a7 a8 i0 hi0 hk hw w hr hn, fun p c w hr => rWrite_ok e p n c ms a0 a1 a2 a3 a4 a5 a6 a7 a8 i0 hi0 hk hw w hr hn⟩
    exact (Near_ok e p n c ms a0 a1 a2 a3 a4 a5 a6 a7 a8 i0 hi0 hk hw w hr hn).mono fun r w' ⟨q, d, h1, h2, _, h3⟩ => ⟨q, d, h1, h2, h3⟩
  · refine ⟨0, [], 0, _, by decide, fun p c w hr => ?_, fun p c w hr => ?_, fun p c w hr => Write_no e p n c ms a0 a1 a2 a3 a4 a5 a6 a7 a8 st _ rfl h w hr hn, fun p c w hr => rWrite_no e p n c ms a0 a1 a2 a3 a4 a5 a6 a7 a8 st _ rfl h w hr hn⟩
    · exact (Near_no e p n c ms a0 a1 a2 a3 a4 a5 a6 a7 a8 st _ rfl h w hr hn).mono fun r w' ⟨h1, h2⟩ => ⟨none, 0, h1, Rd.empty _ _ _ _ fun _ => rfl, h2⟩
    · exact (rNear_no e p n c ms a0 a1 a2 a3 a4 a5 a6 a7 a8 st _ rfl h w hr hn).mono fun r w' ⟨h1, h2⟩ => ⟨none, 0, h1, Rd.empty _ _ _ _ fun _ => rfl, h2⟩

end Go.Proofs.Ytdjeafaaclhpkaa.M
