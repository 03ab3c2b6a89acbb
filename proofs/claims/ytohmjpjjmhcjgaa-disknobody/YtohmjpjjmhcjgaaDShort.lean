/-
  Own text: that short answers, of one call.
-/
import Derived.Test.YtohmjpjjmhcjgaaDNob2
namespace Go.Proofs.Ytohmjpjjmhcjgaa.M
open Go.ChangeShapes Go.WideShapes Go.ChangeAt Go.RowKit

/-- Some answer. -/
def AnyB (e : Ending) : Prop := ∃ b, e = .returned (.bool b)

set_option maxRecDepth 20000 in
set_option maxHeartbeats 1000000 in
theorem short_one (w : World) (b1 b2 : Nat) (bq : Option Addr) (bl bc : Nat) (kq : Option Addr) (kl kc : Nat) (h2 : w.cell? ⟨b2, 0, none⟩ = some (.slice (some ⟨b1, 0, none⟩) 1 1)) (h3 : w.cell? ⟨b1, 3, none⟩ = some (.slice bq bl bc)) (h4 : w.cell? ⟨b1, 4, none⟩ = some (.slice kq kl kc)) :
    Calls Try.prog 4 #[.slice (some ⟨b2, 0, none⟩) 1 1] w fun e w' => AnyB e ∧ Below w.heap.size w w' := by
  go_enter Try.func4, Try.ntmps4
  go_wp2_with fail
  go_loopw [3, 4, 10] (fun x y i wr => ∃ (k : Nat) (p q : Int), k ≤ 1 ∧ i = .int .i64 k ∧ x = .int .i64 p ∧ y = .int .i64 q ∧ Below w.heap.size w wr) (fun _ _ i _ => 1 - (intOf i).toNat)
  case atStart => exact ⟨0, 0, 0, Nat.zero_le _, rfl, rfl, rfl, Below.refl _ _⟩
  case round =>
    obtain ⟨k, p, q, hk, rfl, rfl, rfl, hb⟩ := hrel
    by_cases hk1 : k < 1
    · obtain rfl : k = 0 := by omega
      have g2 : wr.cell? ⟨b2, 0, none⟩ = some (.slice (some ⟨b1, 0, none⟩) 1 1) := by rw [hb.cell (p := ⟨b2, 0, none⟩) (World.block_lt_of_cell? _ _ h2)]; exact h2
      go_wp2_with fail
      go_loopw [3, 4, 7] (fun x y i wq => ∃ (j : Nat) (p q : Int), j ≤ 1 ∧ i = .int .i64 j ∧ x = .int .i64 p ∧ y = .int .i64 q ∧ Below w.heap.size w wq) (fun _ _ i _ => 1 - (intOf i).toNat)
      case atStart => exact ⟨0, p, q, Nat.zero_le _, rfl, rfl, rfl, hb⟩
      case round =>
        clear hb
        obtain ⟨j, p, q, hj, rfl, rfl, rfl, hb⟩ := hrel
        have g3 : wr.cell? ⟨b1, 3, none⟩ = some (.slice bq bl bc) := by rw [hb.cell (p := ⟨b1, 3, none⟩) (World.block_lt_of_cell? _ _ h3)]; exact h3
        have g4 : wr.cell? ⟨b1, 4, none⟩ = some (.slice kq kl kc) := by rw [hb.cell (p := ⟨b1, 4, none⟩) (World.block_lt_of_cell? _ _ h4)]; exact h4
        by_cases hj1 : j < 1
        · obtain rfl : j = 0 := by omega
          by_cases hq : q ≤ 150
          · by_cases hp : p ≤ 16384
            · go_wp2_with fail
              go_quiet (fail)
              go_wp2_with fail
              go_roundw
              case rel => exact ⟨1, _, _, Nat.le_refl _, rfl, rfl, rfl, below_drewN hb nq⟩
              case measure => simp [intOf]
            · go_wp2_with fail
              exact ⟨⟨1, p, q, Nat.le_refl _, rfl, rfl, rfl, hb⟩, by simp [intOf]⟩
          · go_wp2_with fail
            exact ⟨⟨1, p, q, Nat.le_refl _, rfl, rfl, rfl, hb⟩, by simp [intOf]⟩
        · obtain rfl : j = 1 := by omega
          go_wp2_with fail
          exact ⟨⟨1, p, q, Nat.le_refl _, rfl, rfl, rfl, hb⟩, by simp [intOf]⟩
    · obtain rfl : k = 1 := by omega
      by_cases hq : q ≤ 150
      · go_wp2_with fail
        go_ret
        exact ⟨⟨_, rfl⟩, hb⟩
      · go_wp2_with fail
        go_ret
        exact ⟨⟨_, rfl⟩, hb⟩

end Go.Proofs.Ytohmjpjjmhcjgaa.M
