/-
  Own text: contracts of the program's chunk, getSum and Open.
-/
import Derived.Test.YtphdbpljgilcgaaDoorPureS
namespace Go.Proofs.YtphdbpljgilcgaaDoor.M
open Go.ChangeShapes Go.WideShapes Go.ChangeAt Go.RowKit

theorem Rd.sub {k : IntKind} {w : World} {b o n c : Nat} {xs : List Int} (h : Rd k w (some ⟨b, o, none⟩) n c xs) (a m d : Nat) (h1 : a + m ≤ n) (h2 : m ≤ d) : Rd k w (some ⟨b, o + a, none⟩) m d ((xs.drop a).take m) := by
  have hl := h.len
  refine ⟨by rw [List.length_take, List.length_drop]; omega, h2, (fun e => by cases e), fun hm => ⟨b, o + a, rfl, fun i hi => ?_⟩⟩
  obtain ⟨b', o', he, hc⟩ := h.cells (by omega)
  cases he
  have := hc (a + i) (by omega)
  rw [show o + a + i = o + (a + i) by omega, this]
  rw [List.getD_eq_getElem?_getD, List.getD_eq_getElem?_getD, List.getElem?_take, if_pos hi, List.getElem?_drop]

theorem ret_chunk (p : Option Addr) (a v : Nat) : Ending.returned (.tuple #[.slice p (a + v - a) (a + v - a), .int .i64 ((a : Int) + (v : Int)), .int .i64 0]) = .returned (.tuple #[.slice p v v, .int .i64 ((a + v : Nat) : Int), .int .i64 0]) := by
  rw [Nat.add_sub_cancel_left, Int.natCast_add]

theorem or_byte_u32 (s z : Nat) (hs : s < 16777216) (hz : z < 256) : bits .or .u32 ((s : Int) * 256) (z : Int) = ((s * 256 + z : Nat) : Int) := by
  rw [show (s : Int) * 256 = ((s * 256 : Nat) : Int) by omega, u32_or_nat (s * 256) z (by omega) (by omega), nat_join 8 (s * 256) z (by omega) (by omega)]

/-- The number in the first bytes. -/
def getN (l : List Int) : Nat := l.foldl (fun s x => s * 256 + x.toNat) 0

theorem getN_snoc {l : List Int} {k : Nat} (h : k < l.length) : getN (l.take (k + 1)) = getN (l.take k) * 256 + (l.getD k 0).toNat := by
  unfold getN
  rw [take_snoc h, List.foldl_append]
  rfl

theorem getN_lt {l : List Int} (hb : By l) : getN l < 256 ^ l.length := by
  have key : ∀ (l : List Int) (s n : Nat), By l → s < 256 ^ n → l.foldl (fun s x => s * 256 + x.toNat) s < 256 ^ (n + l.length) := by
    intro l
    induction l with
    | nil => intro s n _ h; simpa using h
    | cons x r ih =>
      intro s n hb h
      have hx := hb x (by simp)
      have := ih (s * 256 + x.toNat) (n + 1) (fun y hy => hb y (by simp [hy])) (by rw [Nat.pow_succ]; omega)
      rw [List.length_cons, show n + (r.length + 1) = n + 1 + r.length by omega]
      exact this
  have := key l 0 0 hb (by simp)
  simpa [getN] using this

end Go.Proofs.YtphdbpljgilcgaaDoor.M
