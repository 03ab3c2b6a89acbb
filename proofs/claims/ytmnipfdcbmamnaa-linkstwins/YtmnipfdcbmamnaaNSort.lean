/-
  Own text: slices.SortFunc of links, laid out of the library's shelf.
-/
import Derived.Test.YtmnipfdcbmamnaaNDel
import Derived.Shelf.SlSortCmp.WholeK
namespace Go.Proofs.Ytmnipfdcbmamnaa.M
open Go.ChangeShapes Go.WideShapes Go.ChangeAt Go.RowKit Go.Shelf Go.Proofs

/-- The shelf's numbers in this program. -/
def renS : Ren := ⟨fun x => if x = 6 then 53 else if x = 14 then 59 else if x = 15 then 60 else if x = 20 then 61 else if x = 21 then 62 else if x = 22 then 63 else if x = 23 then 64 else if x = 24 then 65 else if x = 25 then 66 else if x = 26 then 67 else if x = 27 then 68 else if x = 28 then 69 else if x = 29 then 70 else if x = 46 then 71 else if x = 47 then 72 else if x = 48 then 73 else if x = 49 then 74 else if x = 50 then 75 else if x = 57 then 76 else 0, fun x => if x = 0 then 0 else if x = 3 then 3 else if x = 4 then 4 else if x = 5 then 5 else if x = 9 then 9 else if x = 22 then 51 else if x = 24 then 33 else if x = 25 then 85 else if x = 39 then 58 else if x = 45 then 100 else if x = 46 then 101 else if x = 50 then 105 else if x = 53 then 108 else if x = 55 then 35 else if x = 66 then 110 else if x = 70 then 114 else if x = 76 then 116 else if x = 77 then 117 else 0, fun _ => 0⟩

set_option maxRecDepth 100000 in
theorem laysS : SlLaysF0.n6 Try.prog renS where
  mixed := by kernel_rfl
  f6 := ⟨ "slices.SortFunc[[]towline/api.Link,towline/api.Link]", by decide, by kernel_rfl⟩
  f14 := ⟨ "slices.pdqsortCmpFunc[towline/api.Link]", by decide, by kernel_rfl⟩
  f15 := by kernel_rfl
  f20 := ⟨ "slices.insertionSortCmpFunc[towline/api.Link]", by decide, by kernel_rfl⟩
  f21 := ⟨ "slices.heapSortCmpFunc[towline/api.Link]", by decide, by kernel_rfl⟩
  f22 := ⟨ "slices.breakPatternsCmpFunc[towline/api.Link]", by decide, by kernel_rfl⟩
  f23 := ⟨ "slices.choosePivotCmpFunc[towline/api.Link]", by decide, by kernel_rfl⟩
  f24 := ⟨ "slices.reverseRangeCmpFunc[towline/api.Link]", by decide, by kernel_rfl⟩
  f25 := ⟨ "slices.partialInsertionSortCmpFunc[towline/api.Link]", by decide, by kernel_rfl⟩
  f26 := ⟨ "slices.partitionEqualCmpFunc[towline/api.Link]", by decide, by kernel_rfl⟩
  f27 := ⟨ "slices.partitionCmpFunc[towline/api.Link]", by decide, by kernel_rfl⟩
  f28 := by kernel_rfl
  f29 := by kernel_rfl
  f46 := ⟨ "slices.siftDownCmpFunc[towline/api.Link]", by decide, by kernel_rfl⟩
  f47 := by kernel_rfl
  f48 := by kernel_rfl
  f49 := ⟨ "slices.medianAdjacentCmpFunc[towline/api.Link]", by decide, by kernel_rfl⟩
  f50 := ⟨ "slices.medianCmpFunc[towline/api.Link]", by decide, by kernel_rfl⟩
  f57 := ⟨ "slices.order2CmpFunc[towline/api.Link]", by decide, by kernel_rfl⟩
  t0 := Try.underlying0
  a0 := Try.isAgg0
  z0 := Try.sizeOf0
  v0 := Try.zeroValue0
  t3 := Try.underlying3
  a3 := Try.isAgg3
  z3 := Try.sizeOf3
  v3 := Try.zeroValue3
  t4 := Try.underlying4
  a4 := Try.isAgg4
  z4 := Try.sizeOf4
  v4 := Try.zeroValue4
  t5 := Try.underlying5
  a5 := Try.isAgg5
  z5 := Try.sizeOf5
  v5 := Try.zeroValue5
  t9 := Try.underlying9
  a9 := Try.isAgg9
  z9 := Try.sizeOf9
  v9 := Try.zeroValue9
  t22 := Try.underlying51
  a22 := Try.isAgg51
  z22 := Try.sizeOf51
  v22 := Try.zeroValue51
  t25 := Try.underlying85
  a25 := Try.isAgg85
  z25 := Try.sizeOf85
  v25 := Try.zeroValue85
  t39 := Try.underlying58
  a39 := Try.isAgg58
  z39 := Try.sizeOf58
  v39 := Try.zeroValue58
  t45 := Try.underlying100
  a45 := Try.isAgg100
  z45 := Try.sizeOf100
  v45 := Try.zeroValue100
  t46 := Try.underlying101
  a46 := Try.isAgg101
  z46 := Try.sizeOf101
  v46 := Try.zeroValue101
  t50 := Try.underlying105
  a50 := Try.isAgg105
  z50 := Try.sizeOf105
  v50 := Try.zeroValue105
  t53 := Try.underlying108
  a53 := Try.isAgg108
  z53 := Try.sizeOf108
  v53 := Try.zeroValue108
  t55 := Try.underlying35
  a55 := Try.isAgg35
  z55 := Try.sizeOf35
  v55 := Try.zeroValue35
  t66 := Try.underlying110
  a66 := Try.isAgg110
  z66 := Try.sizeOf110
  v66 := Try.zeroValue110
  t70 := Try.underlying114
  a70 := Try.isAgg114
  z70 := Try.sizeOf114
  v70 := Try.zeroValue114
  t76 := Try.underlying116
  a76 := Try.isAgg116
  z76 := Try.sizeOf116
  v76 := Try.zeroValue116
  t77 := Try.underlying117
  a77 := Try.isAgg117
  z77 := Try.sizeOf117
  v77 := Try.zeroValue117

end Go.Proofs.Ytmnipfdcbmamnaa.M
