/-
  Own text: the searches of the examples.
-/
import Derived.Test.YtmfmjoibofadlaaOOrd
namespace Go.Proofs.Ytmfmjoibofadlaa.M
open Go.ChangeShapes Go.WideShapes Go.ChangeAt Go.RowKit
set_option linter.unusedSimpArgs false

/-- The calls of the examples. -/
def exW : Lo := ⟨true, ⟨#[97]⟩, 1, 1, 2⟩
def exN : Lo := ⟨true, ⟨#[97]⟩, 1, 1, 0⟩
def exA : Lo := ⟨false, ⟨#[97]⟩, 1, 3, 4⟩
def exE : Lo := ⟨false, ⟨#[]⟩, 0, 3, 4⟩
def exB : Lo := ⟨false, ⟨#[97]⟩, 0, 3, 4⟩
def exC : Lo := ⟨false, ⟨#[]⟩, 0, 5, 6⟩

theorem ex1 : (foundF (srO [exW, exA] 2) 4 [] [] 0 ⟨#[]⟩).map (fun x => (x.1, x.2.2)) = some (true, [0, 1]) := by decide +kernel
theorem ex2 : (foundF (srO [exW, exE] 2) 4 [] [] 0 ⟨#[]⟩).map (fun x => x.1) = some false := by decide +kernel
theorem ex3 : (foundF (srO [exN, exB, exC] 3) 5 [] [] 0 ⟨#[]⟩).map (fun x => x.1) = some false := by decide +kernel
theorem exR1 : rightO [exW, exA] = 0 := by decide +kernel
theorem exR2 : rightO [exW, exE] = 0 := by decide +kernel
theorem exR3 : rightO [exN, exB, exC] = 0 := by decide +kernel
theorem exR0 : rightO [.z0] = 70 := by decide +kernel

end Go.Proofs.Ytmfmjoibofadlaa.M
