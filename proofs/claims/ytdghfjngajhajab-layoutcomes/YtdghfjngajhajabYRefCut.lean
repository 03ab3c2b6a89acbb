/-
  Own text: the contract of the reference's Cut.
-/
import Derived.Test.YtdghfjngajhajabYOwn
namespace Go.Proofs.Ytdghfjngajhajab.M
open Go.ChangeShapes Go.WideShapes Go.ChangeAt Go.RowKit

theorem RdM.back2 {w : World} {b o n c k : Nat} {ms : List Mb} (h : RdM w (some ⟨b, o, none⟩) n c ms) (h0 : 0 < n) (hk : k ≤ n) : RdM w (some ⟨b, o + k * 3, none⟩) (n - k) (c - k) (ms.drop k) := by
  obtain ⟨b', o', e', hc⟩ := h.flat h0
  cases e'
  have hl := h.len
  have hcp := h.cap
  refine RdM.of_flat (by rw [List.length_drop]; omega) (by omega) fun j hj => ?_
  rw [Nat.add_assoc, hc (k * 3 + j) (by omega)]
  have e : j = j / 3 * 3 + j % 3 := by omega
  have hm : j % 3 < 3 := Nat.mod_lt _ (by decide)
  rw [show k * 3 + j = (k + j / 3) * 3 + j % 3 by omega]
  conv => rhs; rw [e]
  refine congrArg some (cellAt_shift ?_ hm)
  rw [List.getD_eq_getElem?_getD, List.getD_eq_getElem?_getD, List.getElem?_drop]

/-- How long a slice is. -/
def lenV : Value → Nat
  | .slice _ n _ => n
  | _ => 0

/-- Who stays. -/
def kpM (node site : Int) (m : Mb) : Bool := !(m.n == node) && !(m.s == site)

end Go.Proofs.Ytdghfjngajhajab.M
