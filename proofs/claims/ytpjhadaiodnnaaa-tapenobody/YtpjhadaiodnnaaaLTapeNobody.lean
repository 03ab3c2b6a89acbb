/-
  Own text: the walk of the law TapeNobody.
-/
import Derived.Test.YtpjhadaiodnnaaaTAwake
import Derived.Test.YtpjhadaiodnnaaaTNob2
namespace Go.Proofs.Ytpjhadaiodnnaaa.M
open Go.ChangeShapes Go.WideShapes Go.ChangeAt Go.RowKit
set_option linter.unusedSimpArgs false

/-- A list of two: none, and one that is in block lb. -/
theorem two_cells {w : World} {Z : Array Value} {t pt : TypeId} : At t ((w.alloc (.cells Z t)).alloc (.cells #[.pointer none, .pointer (some ⟨w.heap.size, 0, none⟩)] pt)) w.heap.size Z ∧ At pt ((w.alloc (.cells Z t)).alloc (.cells #[.pointer none, .pointer (some ⟨w.heap.size, 0, none⟩)] pt)) (w.heap.size + 1) #[.pointer none, .pointer (some ⟨w.heap.size, 0, none⟩)] ∧ Below w.heap.size w ((w.alloc (.cells Z t)).alloc (.cells #[.pointer none, .pointer (some ⟨w.heap.size, 0, none⟩)] pt)) := by
  have h1 := below_alloc w (.cells Z t)
  have h2 := below_alloc (w.alloc (.cells Z t)) (.cells #[.pointer none, .pointer (some ⟨w.heap.size, 0, none⟩)] pt)
  have hs : (w.alloc (.cells Z t)).heap.size = w.heap.size + 1 := by simp
  refine ⟨(At.new t w Z).below h2, ?_, h1.trans (h2.mono h1.size)⟩
  have h3 := At.new pt (w.alloc (.cells Z t)) #[.pointer none, .pointer (some ⟨w.heap.size, 0, none⟩)]
  rw [hs] at h3
  exact h3

set_option maxRecDepth 20000 in
set_option maxHeartbeats 4000000 in
theorem walk_TapeNobody (w : World) (i : Int) (q : Option Addr) (n c : Nat) :
    Calls Try.prog 7 #[.int .i64 i, .slice q n c] w fun e w' => e = .returned (.bool true) ∧ Below w.heap.size w w' := by
  obtain ⟨hA0, hA1, hAb⟩ := two_cells (w := w) (Z := #[.pointer none, .int .i64 0, .int .i64 0, .int .i64 0, .slice none 0 0, .slice none 0 0]) (t := 74) (pt := 33)
  go_enter Try.func7, Try.ntmps7
  go_wp2_with fail
  generalize ((w.alloc (.cells #[.pointer none, .int .i64 0, .int .i64 0, .int .i64 0, .slice none 0 0, .slice none 0 0] 74)).alloc (.cells #[.pointer none, .pointer (some ⟨w.heap.size, 0, none⟩)] 33)) = w1 at *
  obtain ⟨lb, HL⟩ : ∃ z, Hid (z = w.heap.size) := ⟨_, rfl⟩
  rw [← HL.out] at hA0 hA1 ⊢
  have HA0 : Hid (At 74 w1 lb #[.pointer none, .int .i64 0, .int .i64 0, .int .i64 0, .slice none 0 0, .slice none 0 0]) := hA0
  have HA1 : Hid (At 33 w1 (lb + 1) #[.pointer none, .pointer (some ⟨lb, 0, none⟩)]) := hA1
  have HAb : Hid (Below lb w w1) := by rw [HL.out]; exact hAb
  clear hA0 hA1 hAb
  go_loopw [17] (fun ix wr => ∃ k : Nat, k ≤ 2 ∧ ix = .int .i64 k ∧ Below w1.heap.size w1 wr) (fun ix _ => 2 - (intOf ix).toNat)
  case atStart => exact ⟨0, Nat.zero_le _, rfl, Below.refl _ _⟩
  case round =>
    obtain ⟨k, hk, rfl, hb⟩ := hrel
    by_cases hk2 : k < 2
    · have hki : (k : Int) < 2 := by omega
      obtain ⟨v, hv, hN⟩ : ∃ v, wr.cell? ⟨lb + 1, k, none⟩ = some (.pointer v) ∧ TNo wr v := by
        match k, hk2 with
        | 0, _ => exact ⟨none, (HA1.out.below hb).cell 0, Or.inl rfl⟩
        | 1, _ => exact ⟨some ⟨lb, 0, none⟩, (HA1.out.below hb).cell 1, Or.inr ⟨lb, rfl, (HA0.out.below hb).cell 0⟩⟩
      have cA := TAt_no wr v hN i
      have cP := TPut_no wr v hN q n c
      have cY := TSync_no wr v hN
      have cS := TSave_no wr v hN q n c none 0 0
      have cL := TLen_no wr v hN
      have cK := TKept_no wr v hN
      have cB := TBase_no wr v hN
      clear hN
      go_wp2_with fail
      refine cA.mono ?_
      rintro e w5 ⟨rfl, hw⟩
      subst hw
      clear cA
      go_wp2_with fail
      refine cP.mono ?_
      rintro e w6 ⟨rfl, hw⟩
      subst hw
      clear cP
      go_wp2_with fail
      refine cY.mono ?_
      rintro e w7 ⟨rfl, hw⟩
      subst hw
      clear cY
      go_wp2_with fail
      refine cS.mono ?_
      rintro e w8 ⟨rfl, hw⟩
      subst hw
      clear cS
      go_wp2_with fail
      refine cL.mono ?_
      rintro e w9 ⟨rfl, hw⟩
      subst hw
      clear cL
      go_wp2_with fail
      refine cK.mono ?_
      rintro e w10 ⟨rfl, hw⟩
      subst hw
      clear cK
      go_wp2_with fail
      refine cB.mono ?_
      rintro e w11 ⟨rfl, hw⟩
      subst hw
      clear cB
      go_wp2_with fail
      go_roundw
      case rel => exact ⟨k + 1, by omega, by go_num, hb⟩
      case measure => simp [intOf]; omega
    · have hki : ¬ (k : Int) < 2 := by omega
      have HB0 : Hid (Below lb w wr) := HAb.out.trans (hb.mono (Nat.le_trans (by rw [HL.out]; exact Nat.le_refl _) HAb.out.size))
      obtain ⟨hD0, hD1, hDb⟩ := two_cells (w := wr) (Z := #[.int .i64 0, .bool false, Value.slice none 0 0, Value.slice none 0 0, Value.bool false, Value.slice none 0 0, Value.slice none 0 0, Value.bool false, Value.slice none 0 0, Value.slice none 0 0, Value.bool false, Value.slice none 0 0, Value.slice none 0 0, Value.bool false, Value.slice none 0 0, Value.slice none 0 0, Value.bool false, Value.slice none 0 0, Value.slice none 0 0, Value.bool false, Value.slice none 0 0, Value.slice none 0 0, Value.bool false, Value.slice none 0 0, Value.slice none 0 0, Value.bool false, .int .i64 0, .slice none 0 0]) (t := 85) (pt := 24)
      clear hb hk2 HA0 HA1
      go_wp2_with fail
      generalize ((wr.alloc (.cells #[.int .i64 0, .bool false, Value.slice none 0 0, Value.slice none 0 0, Value.bool false, Value.slice none 0 0, Value.slice none 0 0, Value.bool false, Value.slice none 0 0, Value.slice none 0 0, Value.bool false, Value.slice none 0 0, Value.slice none 0 0, Value.bool false, Value.slice none 0 0, Value.slice none 0 0, Value.bool false, Value.slice none 0 0, Value.slice none 0 0, Value.bool false, Value.slice none 0 0, Value.slice none 0 0, Value.bool false, Value.slice none 0 0, Value.slice none 0 0, Value.bool false, .int .i64 0, .slice none 0 0] 85)).alloc (.cells #[.pointer none, .pointer (some ⟨wr.heap.size, 0, none⟩)] 24)) = w2 at *
      obtain ⟨ld, HD⟩ : ∃ z, Hid (z = wr.heap.size) := ⟨_, rfl⟩
      rw [← HD.out] at hD0 hD1 ⊢
      have HD0 : Hid (At 85 w2 ld #[.int .i64 0, .bool false, Value.slice none 0 0, Value.slice none 0 0, Value.bool false, Value.slice none 0 0, Value.slice none 0 0, Value.bool false, Value.slice none 0 0, Value.slice none 0 0, Value.bool false, Value.slice none 0 0, Value.slice none 0 0, Value.bool false, Value.slice none 0 0, Value.slice none 0 0, Value.bool false, Value.slice none 0 0, Value.slice none 0 0, Value.bool false, Value.slice none 0 0, Value.slice none 0 0, Value.bool false, Value.slice none 0 0, Value.slice none 0 0, Value.bool false, .int .i64 0, .slice none 0 0]) := hD0
      have HD1 : Hid (At 24 w2 (ld + 1) #[.pointer none, .pointer (some ⟨ld, 0, none⟩)]) := hD1
      have hLe : lb ≤ wr.heap.size := Nat.le_trans (by rw [HL.out]; exact Nat.le_refl _) HB0.out.size
      have HDb : Hid (Below lb w w2) := HB0.out.trans (hDb.mono hLe)
      have HL2 : Hid (lb ≤ w2.heap.size) := Nat.le_trans hLe hDb.size
      clear hD0 hD1 hDb hLe
      clear hki hk
      go_loopw [65] (fun ix wr => ∃ k : Nat, k ≤ 2 ∧ ix = .int .i64 k ∧ Below w2.heap.size w2 wr) (fun ix _ => 2 - (intOf ix).toNat)
      case atStart => exact ⟨0, Nat.zero_le _, rfl, Below.refl _ _⟩
      case round =>
        obtain ⟨k, hk, rfl, hb⟩ := hrel
        by_cases hk2 : k < 2
        · have hki2 : (k : Int) < 2 := by omega
          obtain ⟨v, hv, hN⟩ : ∃ v, wr.cell? ⟨ld + 1, k, none⟩ = some (.pointer v) ∧ Nob (.pointer v) wr := by
            match k, hk2 with
            | 0, _ => exact ⟨none, (HD1.out.below hb).cell 0, Or.inl rfl⟩
            | 1, _ => exact ⟨some ⟨ld, 0, none⟩, (HD1.out.below hb).cell 1, Or.inr ⟨ld, rfl, (HD0.out.below hb).cell 0⟩⟩
          have cO := TOpen_no v wr hN
          have HB : Hid (Below w2.heap.size w2 wr) := hb
          clear hN hb
          go_wp2_with fail
          refine cO.mono ?_
          rintro e w5 ⟨rfl, hb5⟩
          clear cO
          have HB5 : Hid (Below w2.heap.size w2 w5) := HB.out.trans (hb5.mono HB.out.size)
          clear hb5
          go_wp2_with fail
          go_roundw
          case rel => exact ⟨k + 1, by omega, by go_num, HB5.out⟩
          case measure => simp [intOf]; omega
        · have hki2 : ¬ (k : Int) < 2 := by omega
          have HB : Hid (Below lb w wr) := HDb.out.trans (hb.mono HL2.out)
          have HL3 : Hid (lb ≤ wr.heap.size) := Nat.le_trans HL2.out hb.size
          have cW := awake_any wr
          clear hb hk hk2 HD0 HD1
          go_wp2_with fail
          refine cW.mono ?_
          rintro e w9 ⟨rfl, hb9⟩
          clear cW
          have HB9 : Hid (Below lb w w9) := HB.out.trans (hb9.mono HL3.out)
          clear hb9
          go_wp2_with fail
          go_ret
          exact ⟨rfl, by have h := HB9.out; rw [HL.out] at h; exact h⟩

end Go.Proofs.Ytpjhadaiodnnaaa.M
