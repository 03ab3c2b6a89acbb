/-
  Own text: slices.SortFunc of integers, laid out of the library's shelf.
-/
import Derived.Test.YtmfmjoibofadlaaOBy0
import Derived.Shelf.SlSortCmp.Whole1
namespace Go.Proofs.Ytmfmjoibofadlaa.M
open Go.ChangeShapes Go.WideShapes Go.ChangeAt Go.RowKit Go.Shelf Go.Proofs

/-- The shelf's numbers in this program. -/
def renS : Ren := ⟨fun x => if x = 6 then 37 else if x = 14 then 52 else if x = 15 then 53 else if x = 20 then 61 else if x = 21 then 62 else if x = 22 then 63 else if x = 23 then 64 else if x = 24 then 65 else if x = 25 then 66 else if x = 26 then 67 else if x = 27 then 68 else if x = 28 then 69 else if x = 29 then 70 else if x = 46 then 76 else if x = 47 then 77 else if x = 48 then 78 else if x = 49 then 79 else if x = 50 then 80 else if x = 57 then 81 else 0, fun x => if x = 0 then 0 else if x = 3 then 3 else if x = 4 then 4 else if x = 5 then 5 else if x = 9 then 9 else if x = 22 then 30 else if x = 24 then 3 else if x = 25 then 68 else if x = 39 then 40 else if x = 45 then 87 else if x = 46 then 88 else if x = 50 then 92 else if x = 53 then 95 else if x = 55 then 50 else if x = 66 then 99 else if x = 70 then 103 else if x = 76 then 105 else if x = 77 then 106 else 0, fun _ => 0⟩

set_option maxRecDepth 100000 in
theorem laysS : SlLaysF.n6 Try.prog renS where
  mixed := by kernel_rfl
  f6 := ⟨"slices.SortFunc[[]int,int]", by decide, by kernel_rfl⟩
  f14 := ⟨"slices.pdqsortCmpFunc[int]", by decide, by kernel_rfl⟩
  f15 := by kernel_rfl
  f20 := ⟨"slices.insertionSortCmpFunc[int]", by decide, by kernel_rfl⟩
  f21 := ⟨"slices.heapSortCmpFunc[int]", by decide, by kernel_rfl⟩
  f22 := ⟨"slices.breakPatternsCmpFunc[int]", by decide, by kernel_rfl⟩
  f23 := ⟨"slices.choosePivotCmpFunc[int]", by decide, by kernel_rfl⟩
  f24 := ⟨"slices.reverseRangeCmpFunc[int]", by decide, by kernel_rfl⟩
  f25 := ⟨"slices.partialInsertionSortCmpFunc[int]", by decide, by kernel_rfl⟩
  f26 := ⟨"slices.partitionEqualCmpFunc[int]", by decide, by kernel_rfl⟩
  f27 := ⟨"slices.partitionCmpFunc[int]", by decide, by kernel_rfl⟩
  f28 := by kernel_rfl
  f29 := by kernel_rfl
  f46 := ⟨"slices.siftDownCmpFunc[int]", by decide, by kernel_rfl⟩
  f47 := by kernel_rfl
  f48 := by kernel_rfl
  f49 := ⟨"slices.medianAdjacentCmpFunc[int]", by decide, by kernel_rfl⟩
  f50 := ⟨"slices.medianCmpFunc[int]", by decide, by kernel_rfl⟩
  f57 := ⟨"slices.order2CmpFunc[int]", by decide, by kernel_rfl⟩
  t0 := Try.underlying0
  a0 := Try.isAgg0
  z0 := Try.sizeOf0
  v0 := Try.zeroValue0
  t3 := Try.underlying3
  a3 := Try.isAgg3
  z3 := Try.sizeOf3
  v3 := Try.zeroValue3
  t4 := Try.underlying4
  a4 := Try.isAgg4
  z4 := Try.sizeOf4
  v4 := Try.zeroValue4
  t5 := Try.underlying5
  a5 := Try.isAgg5
  z5 := Try.sizeOf5
  v5 := Try.zeroValue5
  t9 := Try.underlying9
  a9 := Try.isAgg9
  z9 := Try.sizeOf9
  v9 := Try.zeroValue9
  t22 := Try.underlying30
  a22 := Try.isAgg30
  z22 := Try.sizeOf30
  v22 := Try.zeroValue30
  a24 := Try.isAgg3
  z24 := Try.sizeOf3
  t25 := Try.underlying68
  a25 := Try.isAgg68
  z25 := Try.sizeOf68
  v25 := Try.zeroValue68
  t39 := Try.underlying40
  a39 := Try.isAgg40
  z39 := Try.sizeOf40
  v39 := Try.zeroValue40
  t45 := Try.underlying87
  a45 := Try.isAgg87
  z45 := Try.sizeOf87
  v45 := Try.zeroValue87
  t46 := Try.underlying88
  a46 := Try.isAgg88
  z46 := Try.sizeOf88
  v46 := Try.zeroValue88
  t50 := Try.underlying92
  a50 := Try.isAgg92
  z50 := Try.sizeOf92
  v50 := Try.zeroValue92
  t53 := Try.underlying95
  a53 := Try.isAgg95
  z53 := Try.sizeOf95
  v53 := Try.zeroValue95
  t55 := Try.underlying50
  a55 := Try.isAgg50
  z55 := Try.sizeOf50
  v55 := Try.zeroValue50
  t66 := Try.underlying99
  a66 := Try.isAgg99
  z66 := Try.sizeOf99
  v66 := Try.zeroValue99
  t70 := Try.underlying103
  a70 := Try.isAgg103
  z70 := Try.sizeOf103
  v70 := Try.zeroValue103
  t76 := Try.underlying105
  a76 := Try.isAgg105
  z76 := Try.sizeOf105
  v76 := Try.zeroValue105
  t77 := Try.underlying106
  a77 := Try.isAgg106
  z77 := Try.sizeOf106
  v77 := Try.zeroValue106

end Go.Proofs.Ytmfmjoibofadlaa.M
