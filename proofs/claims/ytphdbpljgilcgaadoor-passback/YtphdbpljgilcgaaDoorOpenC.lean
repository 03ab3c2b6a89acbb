/-
  Own text: the contract of the program's Open.
-/
import Derived.Test.YtphdbpljgilcgaaDoorChunk
import Derived.WalkSmall
import Derived.Deep.QuietTactic
import Derived.BigQuiet
namespace Go.Proofs.YtphdbpljgilcgaaDoor.M
open Go.ChangeShapes Go.WideShapes Go.ChangeAt Go.RowKit

theorem Rd.drewN {k : IntKind} {w : World} {p : Option Addr} {n c : Nat} {xs : List Int} (h : Rd k w p n c xs) (i : Nat) : Rd k (w.drewN i) p n c xs :=
  h.below (below_drewN (Below.refl _ _) i)

theorem num_room {xs : List Int} (hb : By xs) (h : (numR xs).2.2 = 0) : 0 < (numR xs).2.1 ∧ (numR xs).2.1 ≤ xs.length ∧ (numR xs).2.1 ≤ 10 := by
  obtain ⟨m, hm, hn, rest, hx⟩ := numR_form hb h
  rw [hn, hx, List.length_append]
  exact ⟨putL_pos m, Nat.le_add_right _ _, putL_len hm⟩

theorem ret_open (p : Option Addr) (v c a : Nat) : Ending.returned (.tuple #[.slice p v c, .int .i64 ((a : Int) + (v : Int) + 4), .int .i64 0]) = .returned (.tuple #[.slice p v c, .int .i64 ((a + v + 4 : Nat) : Int), .int .i64 0]) := by
  rw [Int.natCast_add, Int.natCast_add]; rfl

end Go.Proofs.YtphdbpljgilcgaaDoor.M
