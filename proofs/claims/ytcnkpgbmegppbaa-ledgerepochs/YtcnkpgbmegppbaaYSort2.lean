/-
  Own text: a stable sort of as many members as may be comes back, with as many members.
-/
import Derived.Test.YtcnkpgbmegppbaaYSym2
namespace Go.Proofs.Ytcnkpgbmegppbaa.M
open Go.ChangeShapes Go.WideShapes Go.ChangeAt Go.RowKit

theorem insertion_len (w : World) (g N n : Nat) (L : List Mb) (a b : Nat) (hR : Row w g N L) (hL : L.length = n) (hab : a ≤ b) (hbn : b ≤ n) (hn : n ≤ 1099511627776) :
    Calls Try.prog 84 #[.slice (some ⟨g, 0, none⟩) n N, .int .i64 a, .int .i64 b, .func (.func 66) #[] #[]] w fun e w' => e = .returned (.tuple #[]) ∧ ∃ M, M.length = n ∧ Row w' g N M ∧ Ex g w w' := by
  have h := insertion_any w g N L a b hR hab (by omega) (by omega)
  rw [hL] at h
  exact h.mono fun _ _ hh => ⟨hh.1, _, by rw [outS_len]; exact hL, hh.2⟩

set_option maxRecDepth 20000 in
set_option maxHeartbeats 2000000 in
theorem stable_many (w : World) (g N n : Nat) (L : List Mb) (hR : Row w g N L) (hL : L.length = n) (hn : n ≤ 1099511627776) :
    Calls Try.prog 75 #[.slice (some ⟨g, 0, none⟩) n N, .int .i64 n, .func (.func 66) #[] #[]] w fun e w' => e = .returned (.tuple #[]) ∧ ∃ M, M.length = n ∧ Row w' g N M ∧ Ex g w w' := by
  go_enter Try.func75, Try.ntmps75
  go_wp2_with fail
  go_loopw [7, 8] (fun u v wr => ∃ (k : Nat) (M : List Mb), k ≤ n ∧ u = .int .i64 k ∧ v = .int .i64 (k + 20 : Nat) ∧ M.length = n ∧ Row wr g N M ∧ Ex g w wr) (fun u _ _ => n - (intOf u).toNat)
  case atStart => exact ⟨0, L, Nat.zero_le _, by first | rfl | go_num, by first | rfl | go_num, hL, hR, Ex.refl _ _⟩
  case round =>
    clear hR hL
    obtain ⟨k, M, hk, rfl, rfl, hM, hR, hb⟩ := hrel
    by_cases h : k + 20 ≤ n
    · have h1 : (k : Int) + 20 ≤ (n : Int) := by omega
      have hI := insertion_len wr g N n M k (k + 20) hR hM (by omega) h hn
      have e1 : ((k + 20 : Nat) : Int) = (k : Int) + 20 := by omega
      rw [e1] at hI ⊢
      clear e1
      go_wp2_with fail
      refine hI.mono ?_
      rintro r w1 ⟨rfl, M1, hM1, hR1, hb1⟩
      go_wp2_with fail
      go_roundw
      case rel => exact ⟨k + 20, M1, h, by first | rfl | go_num | (congr 1; omega), by first | rfl | go_num | (congr 1; omega), hM1, hR1, hb.trans hb1⟩
      case measure => simp [intOf] <;> omega
    · have h1 : ¬ (k : Int) + 20 ≤ (n : Int) := by omega
      have hI := insertion_len wr g N n M k n hR hM hk (Nat.le_refl _) hn
      have e1 : ((k + 20 : Nat) : Int) = (k : Int) + 20 := by omega
      rw [e1]
      clear e1
      go_wp2_with fail
      refine hI.mono ?_
      rintro r w1 ⟨rfl, M1, hM1, hR1, hb1⟩
      have hb2 := hb.trans hb1
      clear hI hR hb hb1 hM
      go_wp2_with fail
      go_loopw [6, 7, 8, 9] (fun z _ _ _ wr => ∃ (s : Nat) (M : List Mb), 0 < s ∧ s ≤ 2 * n + 20 ∧ z = .int .i64 s ∧ M.length = n ∧ Row wr g N M ∧ Ex g w wr) (fun z _ _ _ _ => n - (intOf z).toNat)
      case atStart => exact ⟨20, M1, by omega, by omega, by first | rfl | go_num, hM1, hR1, hb2⟩
      case round =>
        clear hR1 hM1 hb2
        obtain ⟨s, M, hs0, hs1, rfl, hM, hR, hb⟩ := hrel
        by_cases hs : s < n
        · have hsi : (s : Int) < (n : Int) := by omega
          have w2 : IntKind.i64.wrap (2 * (s : Int)) = 2 * (s : Int) := by rw [IntKind.wrap_i64]; omega
          obtain ⟨w5, hw5⟩ : ∃ x, x = wr := ⟨wr, rfl⟩
          rw [← hw5] at hR hb ⊢
          clear hw5
          go_wp2_with fail
          go_loopw [7, 8] (fun u v wr => ∃ (k : Nat) (M : List Mb), k ≤ n ∧ u = .int .i64 k ∧ v = .int .i64 (k + 2 * s : Nat) ∧ M.length = n ∧ Row wr g N M ∧ Ex g w wr) (fun u _ _ => n - (intOf u).toNat)
          case atStart => exact ⟨0, M, Nat.zero_le _, by first | rfl | go_num, by first | rfl | go_num | (congr 1; omega), hM, hR, hb⟩
          case round =>
            clear hR hM hb
            obtain ⟨k, M, hk, rfl, rfl, hM, hR, hb⟩ := hrel
            have e1 : ((k + 2 * s : Nat) : Int) = (k : Int) + 2 * (s : Int) := by omega
            have e2 : IntKind.i64.wrap ((k : Int) + (s : Int)) = (k : Int) + (s : Int) := by rw [IntKind.wrap_i64]; omega
            by_cases h : k + 2 * s ≤ n
            · have h1 : (k : Int) + 2 * (s : Int) ≤ (n : Int) := by omega
              have hI := symMerge_any g N n hn (2 * s) wr M k (k + s) (k + 2 * s) (by omega) hR hM (by omega) (by omega) h
              have e3 : ((k + s : Nat) : Int) = (k : Int) + (s : Int) := by omega
              have e4 : IntKind.i64.wrap ((k : Int) + 2 * (s : Int) + 2 * (s : Int)) = (k : Int) + 2 * (s : Int) + 2 * (s : Int) := by rw [IntKind.wrap_i64]; omega
              rw [e1, e3] at hI
              rw [e1]
              clear e1 e3
              go_wp2_with fail
              refine hI.mono ?_
              rintro r w1 ⟨rfl, M1, hM1, hR1, hb1⟩
              go_wp2_with fail
              go_roundw
              case rel => exact ⟨k + 2 * s, M1, h, by first | rfl | go_num | (congr 1; omega), by first | rfl | go_num | (congr 1; omega), hM1, hR1, hb.trans hb1⟩
              case measure => simp [intOf] <;> omega
            · have h1 : ¬ (k : Int) + 2 * (s : Int) ≤ (n : Int) := by omega
              have w3 : IntKind.i64.wrap ((s : Int) * 2) = (s : Int) * 2 := by rw [IntKind.wrap_i64]; omega
              rw [e1]
              clear e1
              by_cases h2 : k + s < n
              · have h3 : (k : Int) + (s : Int) < (n : Int) := by omega
                have hI := symMerge_any g N n hn n wr M k (k + s) n (by omega) hR hM (by omega) h2 (Nat.le_refl _)
                have e3 : ((k + s : Nat) : Int) = (k : Int) + (s : Int) := by omega
                rw [e3] at hI
                clear e3
                go_wp2_with fail
                refine hI.mono ?_
                rintro r w1 ⟨rfl, M1, hM1, hR1, hb1⟩
                go_wp2_with fail
                go_roundw
                case rel => exact ⟨2 * s, M1, by omega, by omega, by first | rfl | go_num | (congr 1; omega), hM1, hR1, hb.trans hb1⟩
                case measure => simp [intOf] <;> omega
              · have h3 : ¬ (k : Int) + (s : Int) < (n : Int) := by omega
                go_wp2_with fail
                go_roundw
                case rel => exact ⟨2 * s, M, by omega, by omega, by first | rfl | go_num | (congr 1; omega), hM, hR, hb⟩
                case measure => simp [intOf] <;> omega
        · have hsi : ¬ (s : Int) < (n : Int) := by omega
          go_wp2_with fail
          go_end0
          exact ⟨rfl, M, hM, hR, hb⟩

set_option maxRecDepth 20000 in
theorem sort_many (w : World) (g N n : Nat) (L : List Mb) (hR : Row w g N L) (hL : L.length = n) (hn : n ≤ 1099511627776) :
    Calls Try.prog 65 #[.slice (some ⟨g, 0, none⟩) n N, .func (.func 66) #[] #[]] w fun e w' => e = .returned (.tuple #[]) ∧ ∃ M, M.length = n ∧ Row w' g N M ∧ Ex g w w' := by
  have hI := stable_many w g N n L hR hL hn
  clear hR
  go_enter Try.func65, Try.ntmps65
  go_wp2_with fail
  refine hI.mono ?_
  rintro r w1 ⟨rfl, M, hM, hR1, hb1⟩
  go_wp2_with fail
  go_end0
  exact ⟨rfl, M, hM, hR1, hb1⟩

end Go.Proofs.Ytcnkpgbmegppbaa.M
