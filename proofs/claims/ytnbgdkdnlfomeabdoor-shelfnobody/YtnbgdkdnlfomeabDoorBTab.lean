/-
  Own text: the library's tables of utf8, as the rows list them, lie in memory.
-/
import Derived.Test.YtnbgdkdnlfomeabDoorBAw
import Derived.Test.YtnbgdkdnlfomeabDoorRows
import Derived.Lib.LaidU8T
import Derived.PinnedBridge
import Derived.Deep.DeepHandedRow
import Derived.Lay
import Derived.MakeChecks
namespace Go.Proofs.YtnbgdkdnlfomeabDoor
open Go.ChangeShapes Go.WideShapes Go.ChangeAt Go.RowKit M Go.Shelf Go.Proofs

theorem extraU : U8Extra Tryd.prog renU where
  n3 := by kernel_rfl
  n4 := by kernel_rfl
  y3 := by kernel_rfl
  y4 := by kernel_rfl
  c5 := by kernel_rfl
  c119 := by kernel_rfl
  c138 := by kernel_rfl

theorem accept_eq : (Rows.laid_unicode_utf8_acceptRanges : DataW Unit) = Lib.acceptData := by kernel_rfl

theorem first_eq : Rows.laid_unicode_utf8_first = Lib.firstData := Pinned.utf8First_eq

theorem tabs_of {W : World} (h : laidMetH Tryd.prog Rows.shelfTwinsRow.laid W) : Tabs W := by
  rw [MakeChecks.laidMetH_plain _ _ _ (by kernel_rfl)] at h
  have h1 := Lib.laidMet.reads h (n := "unicode/utf8.first") (d := Rows.laid_unicode_utf8_first) (List.mem_cons_of_mem _ (List.mem_cons_self ..))
  have h2 := Lib.laidMet.reads h (n := "unicode/utf8.acceptRanges") (d := Rows.laid_unicode_utf8_acceptRanges) (List.mem_cons_self ..)
  rw [first_eq] at h1
  rw [accept_eq] at h2
  exact utf8Tabs_of_readsT (U8Types.of196 laysU) extraU h1 h2

end Go.Proofs.YtnbgdkdnlfomeabDoor
