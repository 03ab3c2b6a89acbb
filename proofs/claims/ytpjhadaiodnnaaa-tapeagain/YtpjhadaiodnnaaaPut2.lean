/-
  Own text: contracts of slices.Clone, of the program's PutInts, PutBool, PutBytes and of the reference's Put, Ints, Bool, Bytes.
-/
import Derived.Test.YtpjhadaiodnnaaaPut
import Derived.Test.YtpjhadaiodnnaaaTurn
import Derived.WalkSpells
namespace Go.Proofs.Ytpjhadaiodnnaaa.M
open Go.ChangeShapes Go.WideShapes Go.ChangeAt Go.RowKit

/-- Each number is an int's. -/
def Sg (l : List Int) : Prop := ∀ x ∈ l, -9223372036854775808 ≤ x ∧ x ≤ 9223372036854775807

/-- The bytes of several numbers with signs. -/
def intAll (l : List Int) : List Int := putAll (l.map zig)

theorem Wd.zig {l : List Int} (h : Sg l) : Wd (l.map zig) := by
  intro x hx
  obtain ⟨y, hy, rfl⟩ := List.mem_map.1 hx
  exact zig_bd y (h y hy).1 (h y hy).2

theorem intAll_snoc {l : List Int} {k : Nat} (h : k < l.length) : intAll (l.take (k + 1)) = intAll (l.take k) ++ putL (zig (l.getD k 0)).toNat := by
  unfold intAll
  rw [take_snoc h, List.map_append, putAll_app]
  simp [putAll]

theorem intAll_len {l : List Int} (h : Sg l) : (intAll l).length ≤ 10 * l.length := by
  have := putAll_len (Wd.zig h)
  rw [List.length_map] at this
  exact this

theorem Sg.take {l : List Int} (h : Sg l) (k : Nat) : Sg (l.take k) := fun x hx => h x (List.mem_of_mem_take hx)

theorem Wd.one {x : Int} (h0 : 0 ≤ x) (h : x < 18446744073709551616) : Wd [x] := fun y hy => by
  obtain rfl : y = x := by simpa using hy
  exact ⟨h0, h⟩

/-- Whether something is so, as a number. -/
def yesN (b : Bool) : Int := if b then 1 else 0

set_option maxRecDepth 20000 in
theorem putBytes_any (p : Option Addr) (n c : Nat) (xs : List Int) (q : Option Addr) (m d : Nat) (ys : List Int) (w : World) (hr : Rd .u8 w p n c xs) (hl : Rd .u8 w q m d ys) (hn : n ≤ 1099511627776) (hm : m ≤ 1099511627776) :
    Calls Try.prog 86 #[.slice p n c, .slice q m d] w fun e w' => ∃ p' c', e = .returned (.slice p' (n + (putL m).length + m) c') ∧ Ow .u8 5 w' w.heap.size p' (n + (putL m).length + m) c' (xs ++ (putL m ++ ys)) ∧ Below w.heap.size w w' := by
  have hpl := putL_len (m := m) (by omega)
  go_enter Try.func86, Try.ntmps86
  go_wp2_with (first | (go_at_call 90; refine (own_any _ _ _ _ _ hr (by omega)).mono ?_; rintro e w1 ⟨p1, c1, rfl, ho1, hb1⟩) | (go_at_call 103; refine (putNumber_any _ _ _ _ _ m _ ho1 hb1.size (by omega) (by omega)).mono ?_; rintro e w2 ⟨p2, c2, rfl, ho2, hb2⟩) | (at_builtin; refine app8 _ rfl _ _ rfl w.heap.size _ _ _ _ rfl ho2 _ _ _ ys rfl (hl.below (hb1.trans hb2)) ?d1 ?d3 ?_))
  case d1 => omega
  case d3 => exact (hb1.trans hb2).size
  intro p3 c3 w3 ho3 hb3
  have hb4 := (hb1.trans hb2).trans hb3
  clear hb1 hb2 hb3
  go_wp2
  go_ret
  exact ⟨p3, c3, rfl, ho3, hb4⟩

end Go.Proofs.Ytpjhadaiodnnaaa.M
