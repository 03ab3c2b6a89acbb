/-
  Own text: the example's numbers.
-/
import Derived.Test.YtcnkpgbmegppbaaJNew
namespace Go.Proofs.Ytcnkpgbmegppbaa.M
open Go.ChangeShapes Go.WideShapes Go.ChangeAt Go.RowKit

def aw0 : List Mb := [⟨0, 0, false⟩, ⟨1, 0, false⟩]
def aw1 : PL := ⟨1, aw0, 0, [(1, aw0)]⟩
def aw2 : PL := ⟨2, [⟨1, 0, false⟩], 1, [(1, aw0), (2, [⟨1, 0, false⟩])]⟩
def aw3 : PL := ⟨2, [⟨1, 0, false⟩], 2, [(1, aw0), (2, [⟨1, 0, false⟩])]⟩

theorem aw_first : firstR aw0 = .ok (1, aw0) := by rfl
theorem aw_chk : chk 1 aw0 = true := by rfl
theorem aw_put : putAll [1, 0, 0, 1] = [1, 0, 0, 1] := by rfl
theorem aw_get : getR [1, 0, 0, 1] = some (1, 0, 0, 1) := by rfl
theorem aw_ch : chR 1 0 0 1 aw0 = .ok (2, [⟨1, 0, false⟩]) := by rfl
theorem aw_app1 : aw1.app 1 [1, 0, 0, 1] = (0, aw2) := by
  unfold PL.app
  rw [if_pos ⟨rfl, by decide⟩, if_neg (by decide), aw_get]
  rfl
theorem aw_app2 : aw2.app 2 [1, 0, 0, 1] = (150, aw3) := by
  unfold PL.app
  rw [if_pos ⟨rfl, by decide⟩, if_neg (by decide), aw_get]
  rfl
theorem aw_app3 : aw3.app 2 [] = (90, aw3) := by
  unfold PL.app
  rw [if_neg (by decide)]

theorem aw1_ok : aw1.ok := ⟨aw_chk, rfl, by decide, by decide⟩
theorem aw2_ok : aw2.ok := by have := PL.app_ok aw1_ok 1 [1, 0, 0, 1]; rw [aw_app1] at this; exact this
theorem aw3_ok : aw3.ok := by have := PL.app_ok aw2_ok 2 [1, 0, 0, 1]; rw [aw_app2] at this; exact this

end Go.Proofs.Ytcnkpgbmegppbaa.M
