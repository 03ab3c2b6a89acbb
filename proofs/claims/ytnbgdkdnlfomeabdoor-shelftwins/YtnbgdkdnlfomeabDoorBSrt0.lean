/-
  Own text: slices.SortFunc of cells, laid out of the library's shelf.
-/
import Derived.Test.YtnbgdkdnlfomeabDoorBCmL
import Derived.Shelf.SlSortCmp.SmallK
import Derived.Shelf.Slices.Cells
namespace Go.Proofs.YtnbgdkdnlfomeabDoor.M
open Go.ChangeShapes Go.WideShapes Go.ChangeAt Go.RowKit Go.Shelf Go.Proofs

/-- The shelf's numbers in this program. -/
def renS : Ren := ⟨fun x => if x = 6 then 57 else if x = 14 then 64 else if x = 15 then 65 else if x = 20 then 70 else if x = 21 then 71 else if x = 22 then 72 else if x = 23 then 73 else if x = 24 then 74 else if x = 25 then 75 else if x = 26 then 76 else if x = 27 then 77 else if x = 28 then 78 else if x = 29 then 79 else if x = 46 then 86 else if x = 47 then 87 else if x = 48 then 88 else if x = 49 then 89 else if x = 50 then 90 else if x = 57 then 94 else 0, fun x => if x = 0 then 0 else if x = 3 then 3 else if x = 4 then 4 else if x = 5 then 5 else if x = 9 then 9 else if x = 22 then 22 else if x = 24 then 71 else if x = 25 then 98 else if x = 39 then 95 else if x = 45 then 111 else if x = 46 then 112 else if x = 50 then 65 else if x = 53 then 118 else if x = 55 then 120 else if x = 66 then 133 else if x = 70 then 137 else if x = 76 then 143 else if x = 77 then 63 else 0, fun _ => 0⟩

set_option maxRecDepth 100000 in
theorem laysS : SlLaysF0.n6 Tryd.prog renS where
  mixed := by kernel_rfl
  f6 := ⟨ "slices.SortFunc[[]towline/api.Cell,towline/api.Cell]", by decide, by kernel_rfl⟩
  f14 := ⟨ "slices.pdqsortCmpFunc[towline/api.Cell]", by decide, by kernel_rfl⟩
  f15 := by kernel_rfl
  f20 := ⟨ "slices.insertionSortCmpFunc[towline/api.Cell]", by decide, by kernel_rfl⟩
  f21 := ⟨ "slices.heapSortCmpFunc[towline/api.Cell]", by decide, by kernel_rfl⟩
  f22 := ⟨ "slices.breakPatternsCmpFunc[towline/api.Cell]", by decide, by kernel_rfl⟩
  f23 := ⟨ "slices.choosePivotCmpFunc[towline/api.Cell]", by decide, by kernel_rfl⟩
  f24 := ⟨ "slices.reverseRangeCmpFunc[towline/api.Cell]", by decide, by kernel_rfl⟩
  f25 := ⟨ "slices.partialInsertionSortCmpFunc[towline/api.Cell]", by decide, by kernel_rfl⟩
  f26 := ⟨ "slices.partitionEqualCmpFunc[towline/api.Cell]", by decide, by kernel_rfl⟩
  f27 := ⟨ "slices.partitionCmpFunc[towline/api.Cell]", by decide, by kernel_rfl⟩
  f28 := by kernel_rfl
  f29 := by kernel_rfl
  f46 := ⟨ "slices.siftDownCmpFunc[towline/api.Cell]", by decide, by kernel_rfl⟩
  f47 := by kernel_rfl
  f48 := by kernel_rfl
  f49 := ⟨ "slices.medianAdjacentCmpFunc[towline/api.Cell]", by decide, by kernel_rfl⟩
  f50 := ⟨ "slices.medianCmpFunc[towline/api.Cell]", by decide, by kernel_rfl⟩
  f57 := ⟨ "slices.order2CmpFunc[towline/api.Cell]", by decide, by kernel_rfl⟩
  t0 := Tryd.underlying0
  a0 := Tryd.isAgg0
  z0 := Tryd.sizeOf0
  v0 := Tryd.zeroValue0
  t3 := Tryd.underlying3
  a3 := Tryd.isAgg3
  z3 := Tryd.sizeOf3
  v3 := Tryd.zeroValue3
  t4 := Tryd.underlying4
  a4 := Tryd.isAgg4
  z4 := Tryd.sizeOf4
  v4 := Tryd.zeroValue4
  t5 := Tryd.underlying5
  a5 := Tryd.isAgg5
  z5 := Tryd.sizeOf5
  v5 := Tryd.zeroValue5
  t9 := Tryd.underlying9
  a9 := Tryd.isAgg9
  z9 := Tryd.sizeOf9
  v9 := Tryd.zeroValue9
  t22 := Tryd.underlying22
  a22 := Tryd.isAgg22
  z22 := Tryd.sizeOf22
  v22 := Tryd.zeroValue22
  t25 := Tryd.underlying98
  a25 := Tryd.isAgg98
  z25 := Tryd.sizeOf98
  v25 := Tryd.zeroValue98
  t39 := Tryd.underlying95
  a39 := Tryd.isAgg95
  z39 := Tryd.sizeOf95
  v39 := Tryd.zeroValue95
  t45 := Tryd.underlying111
  a45 := Tryd.isAgg111
  z45 := Tryd.sizeOf111
  v45 := Tryd.zeroValue111
  t46 := Tryd.underlying112
  a46 := Tryd.isAgg112
  z46 := Tryd.sizeOf112
  v46 := Tryd.zeroValue112
  t50 := Tryd.underlying65
  a50 := Tryd.isAgg65
  z50 := Tryd.sizeOf65
  v50 := Tryd.zeroValue65
  t53 := Tryd.underlying118
  a53 := Tryd.isAgg118
  z53 := Tryd.sizeOf118
  v53 := Tryd.zeroValue118
  t55 := Tryd.underlying120
  a55 := Tryd.isAgg120
  z55 := Tryd.sizeOf120
  v55 := Tryd.zeroValue120
  t66 := Tryd.underlying133
  a66 := Tryd.isAgg133
  z66 := Tryd.sizeOf133
  v66 := Tryd.zeroValue133
  t70 := Tryd.underlying137
  a70 := Tryd.isAgg137
  z70 := Tryd.sizeOf137
  v70 := Tryd.zeroValue137
  t76 := Tryd.underlying143
  a76 := Tryd.isAgg143
  z76 := Tryd.sizeOf143
  v76 := Tryd.zeroValue143
  t77 := Tryd.underlying63
  a77 := Tryd.isAgg63
  z77 := Tryd.sizeOf63
  v77 := Tryd.zeroValue63

end Go.Proofs.YtnbgdkdnlfomeabDoor.M
