/-
  Own text: slices.SortFunc of cells, laid out of the library's shelf.
-/
import Derived.Test.YtnbgdkdnlfomeaaDoorBCmL
import Derived.Shelf.SlSortCmp.SmallK
import Derived.Shelf.Slices.Cells
namespace Go.Proofs.YtnbgdkdnlfomeaaDoor.M
open Go.ChangeShapes Go.WideShapes Go.ChangeAt Go.RowKit Go.Shelf Go.Proofs

/-- The shelf's numbers in this program. -/
def renS : Ren := ⟨fun x => if x = 6 then 67 else if x = 14 then 75 else if x = 15 then 76 else if x = 20 then 82 else if x = 21 then 83 else if x = 22 then 84 else if x = 23 then 85 else if x = 24 then 86 else if x = 25 then 87 else if x = 26 then 88 else if x = 27 then 89 else if x = 28 then 90 else if x = 29 then 91 else if x = 46 then 98 else if x = 47 then 99 else if x = 48 then 100 else if x = 49 then 101 else if x = 50 then 102 else if x = 57 then 106 else 0, fun x => if x = 0 then 0 else if x = 3 then 3 else if x = 4 then 4 else if x = 5 then 5 else if x = 9 then 9 else if x = 22 then 22 else if x = 24 then 53 else if x = 25 then 104 else if x = 39 then 59 else if x = 45 then 119 else if x = 46 then 120 else if x = 50 then 46 else if x = 53 then 126 else if x = 55 then 128 else if x = 66 then 141 else if x = 70 then 145 else if x = 76 then 151 else if x = 77 then 61 else 0, fun _ => 0⟩

set_option maxRecDepth 100000 in
theorem laysS : SlLaysF0.n6 Tryd.prog renS where
  mixed := by kernel_rfl
  f6 := ⟨ "slices.SortFunc[[]towline/api.Cell,towline/api.Cell]", by decide, by kernel_rfl⟩
  f14 := ⟨ "slices.pdqsortCmpFunc[towline/api.Cell]", by decide, by kernel_rfl⟩
  f15 := by kernel_rfl
  f20 := ⟨ "slices.insertionSortCmpFunc[towline/api.Cell]", by decide, by kernel_rfl⟩
  f21 := ⟨ "slices.heapSortCmpFunc[towline/api.Cell]", by decide, by kernel_rfl⟩
  f22 := ⟨ "slices.breakPatternsCmpFunc[towline/api.Cell]", by decide, by kernel_rfl⟩
  f23 := ⟨ "slices.choosePivotCmpFunc[towline/api.Cell]", by decide, by kernel_rfl⟩
  f24 := ⟨ "slices.reverseRangeCmpFunc[towline/api.Cell]", by decide, by kernel_rfl⟩
  f25 := ⟨ "slices.partialInsertionSortCmpFunc[towline/api.Cell]", by decide, by kernel_rfl⟩
  f26 := ⟨ "slices.partitionEqualCmpFunc[towline/api.Cell]", by decide, by kernel_rfl⟩
  f27 := ⟨ "slices.partitionCmpFunc[towline/api.Cell]", by decide, by kernel_rfl⟩
  f28 := by kernel_rfl
  f29 := by kernel_rfl
  f46 := ⟨ "slices.siftDownCmpFunc[towline/api.Cell]", by decide, by kernel_rfl⟩
  f47 := by kernel_rfl
  f48 := by kernel_rfl
  f49 := ⟨ "slices.medianAdjacentCmpFunc[towline/api.Cell]", by decide, by kernel_rfl⟩
  f50 := ⟨ "slices.medianCmpFunc[towline/api.Cell]", by decide, by kernel_rfl⟩
  f57 := ⟨ "slices.order2CmpFunc[towline/api.Cell]", by decide, by kernel_rfl⟩
  t0 := Tryd.underlying0
  a0 := Tryd.isAgg0
  z0 := Tryd.sizeOf0
  v0 := Tryd.zeroValue0
  t3 := Tryd.underlying3
  a3 := Tryd.isAgg3
  z3 := Tryd.sizeOf3
  v3 := Tryd.zeroValue3
  t4 := Tryd.underlying4
  a4 := Tryd.isAgg4
  z4 := Tryd.sizeOf4
  v4 := Tryd.zeroValue4
  t5 := Tryd.underlying5
  a5 := Tryd.isAgg5
  z5 := Tryd.sizeOf5
  v5 := Tryd.zeroValue5
  t9 := Tryd.underlying9
  a9 := Tryd.isAgg9
  z9 := Tryd.sizeOf9
  v9 := Tryd.zeroValue9
  t22 := Tryd.underlying22
  a22 := Tryd.isAgg22
  z22 := Tryd.sizeOf22
  v22 := Tryd.zeroValue22
  t25 := Tryd.underlying104
  a25 := Tryd.isAgg104
  z25 := Tryd.sizeOf104
  v25 := Tryd.zeroValue104
  t39 := Tryd.underlying59
  a39 := Tryd.isAgg59
  z39 := Tryd.sizeOf59
  v39 := Tryd.zeroValue59
  t45 := Tryd.underlying119
  a45 := Tryd.isAgg119
  z45 := Tryd.sizeOf119
  v45 := Tryd.zeroValue119
  t46 := Tryd.underlying120
  a46 := Tryd.isAgg120
  z46 := Tryd.sizeOf120
  v46 := Tryd.zeroValue120
  t50 := Tryd.underlying46
  a50 := Tryd.isAgg46
  z50 := Tryd.sizeOf46
  v50 := Tryd.zeroValue46
  t53 := Tryd.underlying126
  a53 := Tryd.isAgg126
  z53 := Tryd.sizeOf126
  v53 := Tryd.zeroValue126
  t55 := Tryd.underlying128
  a55 := Tryd.isAgg128
  z55 := Tryd.sizeOf128
  v55 := Tryd.zeroValue128
  t66 := Tryd.underlying141
  a66 := Tryd.isAgg141
  z66 := Tryd.sizeOf141
  v66 := Tryd.zeroValue141
  t70 := Tryd.underlying145
  a70 := Tryd.isAgg145
  z70 := Tryd.sizeOf145
  v70 := Tryd.zeroValue145
  t76 := Tryd.underlying151
  a76 := Tryd.isAgg151
  z76 := Tryd.sizeOf151
  v76 := Tryd.zeroValue151
  t77 := Tryd.underlying61
  a77 := Tryd.isAgg61
  z77 := Tryd.sizeOf61
  v77 := Tryd.zeroValue61

end Go.Proofs.YtnbgdkdnlfomeaaDoor.M
