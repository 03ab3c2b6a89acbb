/-
  Own text: that short answers, of one list.
-/
import Derived.Test.YtmnipfdcbmamnaaNCnt
namespace Go.Proofs.Ytmnipfdcbmamnaa.M
open Go.ChangeShapes Go.WideShapes Go.ChangeAt Go.RowKit

/-- Some answer; yes only of few. -/
def ShE (n : Nat) (e : Ending) : Prop := ∃ b, e = .returned (.bool b) ∧ (b = true → n ≤ 150)

/-- Ahead of the list, or behind it. -/
def OSh (n k : Nat) (p q : Int) : Prop := (k = 0 → p = 0 ∧ q = 0) ∧ (k = 1 → p ≤ 16384 → q ≤ 150 → n ≤ 150)

set_option maxRecDepth 20000 in
set_option maxHeartbeats 2000000 in
theorem short_list (w : World) (b2 : Nat) (p : Option Addr) (n c : Nat) (ls : List Nd) (h2 : w.cell? ⟨b2, 0, none⟩ = some (.slice p n c)) (hr : RdN w p n c ls) :
    Calls Try.prog 6 #[.slice (some ⟨b2, 0, none⟩) 1 1] w fun e w' => ShE n e ∧ Below w.heap.size w w' := by
  go_enter Try.func6, Try.ntmps6
  go_wp2_with fail
  go_loopw [3, 4, 10] (fun x y i wr => ∃ (k : Nat) (x1 y1 : Int), k ≤ 1 ∧ i = .int .i64 k ∧ x = .int .i64 x1 ∧ y = .int .i64 y1 ∧ OSh n k x1 y1 ∧ Below w.heap.size w wr) (fun _ _ i _ => 1 - (intOf i).toNat)
  case atStart => exact ⟨0, 0, 0, Nat.zero_le _, rfl, rfl, rfl, ⟨fun _ => ⟨rfl, rfl⟩, (fun h => by cases h)⟩, Below.refl _ _⟩
  case round =>
    obtain ⟨k, x, y, hk, rfl, rfl, rfl, hS, hb⟩ := hrel
    by_cases hk1 : k < 1
    · obtain rfl : k = 0 := by omega
      have g2 : wr.cell? ⟨b2, 0, none⟩ = some (.slice p n c) := by rw [hb.cell (p := ⟨b2, 0, none⟩) (World.block_lt_of_cell? _ _ h2)]; exact h2
      obtain ⟨rfl, rfl⟩ := hS.1 rfl
      clear hS
      go_wp2_with fail
      go_loopw [3, 4, 7] (fun x y i wq => ∃ (j : Nat) (x1 : Int), j ≤ n ∧ j ≤ 151 ∧ 0 ≤ x1 ∧ x1 ≤ 32769 ∧ i = .int .i64 j ∧ x = .int .i64 x1 ∧ y = .int .i64 j ∧ Below w.heap.size w wq) (fun _ _ i _ => n - (intOf i).toNat)
      case atStart => exact ⟨0, 0, Nat.zero_le _, by decide, by decide, by decide, rfl, rfl, rfl, hb⟩
      case round =>
        clear hb
        obtain ⟨j, x, hj, hj1, hx0, hx1, rfl, rfl, rfl, hb⟩ := hrel
        by_cases hjn : j < n
        · have hji : (j : Int) < (n : Int) := by omega
          by_cases hq : j ≤ 150
          · have hqi : (j : Int) ≤ 150 := by omega
            by_cases hp : x ≤ 16384
            · obtain ⟨gb, go, rfl, gc⟩ := hr.cells (by omega)
              have g4 := (gc j hjn).2.2.2.2.1
              have g5 := hb.cell (World.block_lt_of_cell? _ _ g4)
              rw [g4] at g5
              clear gc g4
              generalize (ls.getD j .z0).bq = bq at *
              generalize (ls.getD j .z0).bl = bl at *
              generalize (ls.getD j .z0).bc = bc at *
              have hmn : 0 ≤ min (bl : Int) 16385 ∧ min (bl : Int) 16385 ≤ 16385 := ⟨by omega, by omega⟩
              go_wp2_with fail
              exact ⟨⟨j + 1, x + min (bl : Int) 16385, by omega, by omega, by omega, by omega, by go_num, rfl, by go_num, hb⟩, by simp [intOf]; omega⟩
            · go_wp2_with fail
              exact ⟨⟨1, x, _, Nat.le_refl _, rfl, rfl, rfl, ⟨(fun h => by cases h), fun _ h _ => absurd h hp⟩, hb⟩, by simp [intOf]⟩
          · have hqi : ¬ (j : Int) ≤ 150 := by omega
            go_wp2_with fail
            exact ⟨⟨1, x, _, Nat.le_refl _, rfl, rfl, rfl, ⟨(fun h => by cases h), fun _ _ h => absurd h hqi⟩, hb⟩, by simp [intOf]⟩
        · obtain rfl : j = n := by omega
          go_wp2_with fail
          exact ⟨⟨1, x, _, Nat.le_refl _, rfl, rfl, rfl, ⟨(fun h => by cases h), fun _ _ h => by omega⟩, hb⟩, by simp [intOf]⟩
    · obtain rfl : k = 1 := by omega
      by_cases hq : y ≤ 150
      · by_cases hp : x ≤ 16384
        · have hz := hS.2 rfl hp hq
          go_wp2_with fail
          go_ret
          exact ⟨⟨_, rfl, fun _ => hz⟩, hb⟩
        · have hd : decide (x ≤ 16384) = false := decide_eq_false hp
          go_wp2_with fail
          go_ret
          exact ⟨⟨false, by simp, (fun h => by cases h)⟩, hb⟩
      · go_wp2_with fail
        go_ret
        exact ⟨⟨false, rfl, (fun h => by cases h)⟩, hb⟩

end Go.Proofs.Ytmnipfdcbmamnaa.M
