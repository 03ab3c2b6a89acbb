/-
  Own text: whether two arrays of sixteen bytes are the same.
-/
import Derived.Test.YtlmmidlegdmjpaaGOf
import Derived.Laws.StructEq
namespace Go.Proofs.Ytlmmidlegdmjpaa.M
open Go.ChangeShapes Go.WideShapes Go.ChangeAt Go.RowKit

theorem run_part_num (xs : List Int) (i : Nat) (w : World) (hl : xs.length = 16) (hi : i < 16) : (part 5 (nums .u8 xs) i).run Try.prog w = .ok (.int .u8 (xs.getD i 0)) w := by
  have hu := Try.underlying5
  have hg := nums_get .u8 xs (i := i) (by omega)
  simp [part, isAgg, run_underlying hu, hg]

theorem run_size5 (w : World) : (sizeOf 5).run Try.prog w = .ok 1 w := by
  have h := infoByte
  cases hq : Try.prog.info? 5 with
  | none => rw [hq] at h; cases h
  | some i =>
    rw [hq] at h
    have : i.size = 1 := by simpa using h
    simp [sizeOf, typeInfo, hq, this]

theorem eq_row (xs ys : List Int) (hx : xs.length = 16) (hy : ys.length = 16) (d : Nat) (w : World) :
    (Op.equalIn (d + 1 + 1) 25 (.agg (nums .u8 xs)) (.agg (nums .u8 ys))).run Try.prog w = .ok ((List.range' 0 16).all fun i => xs.getD i 0 == ys.getD i 0) w := by
  have hu := Try.underlying25
  have hu5 := Try.underlying5
  rw [Op.equalIn]
  simp only [Sem.run_bind, run_underlying hu, Result.andThen_ok, run_size5, Nat.mul_one]
  rw [Std.Legacy.Range.forIn_eq_forIn_range']
  have e : List.range' [:16].start [:16].size [:16].step = List.range' 0 16 := rfl
  rw [e]
  have hall : ∀ i ∈ List.range' 0 16, i < 16 := by decide
  generalize List.range' 0 16 = is at hall
  clear e
  induction is with
  | nil => simp
  | cons i is ih =>
    have hi := hall i (by simp)
    have hrest := ih (fun j hj => hall j (by simp [hj]))
    simp only [List.forIn_cons, Sem.run_bind, run_part_num xs i w hx hi, run_part_num ys i w hy hi, Result.andThen_ok, run_equalIn_int w d _ .u8 .u8 _ _ hu5, List.all_cons, Sem.run_ite]
    by_cases h : (xs.getD i 0 == ys.getD i 0) = true
    · rw [h]
      simp only [Bool.not_true, Bool.false_eq_true, if_false, Sem.run_pure, Result.andThen_ok, Bool.true_and]
      exact hrest
    · have h2 : (xs.getD i 0 == ys.getD i 0) = false := by simpa using h
      rw [h2]
      simp only [Bool.not_false, if_true, Sem.run_pure, Result.andThen_ok, Bool.false_and]

theorem all_same (xs ys : List Int) (hx : xs.length = 16) (hy : ys.length = 16) : ((List.range' 0 16).all fun i => xs.getD i 0 == ys.getD i 0) = decide (xs = ys) := by
  rw [Bool.eq_iff_iff, List.all_eq_true, decide_eq_true_iff]
  constructor
  · intro h
    apply List.ext_getElem (by omega)
    intro i h1 h2
    have := h i (by simp [List.mem_range']; omega)
    rw [beq_iff_eq, List.getD_eq_getElem?_getD, List.getD_eq_getElem?_getD, List.getElem?_eq_getElem h1, List.getElem?_eq_getElem h2] at this
    exact this
  · intro h i _
    rw [h, beq_self_eq_true]

theorem eql16 (xs ys : List Int) (hx : xs.length = 16) (hy : ys.length = 16) (w : World) : (Op.equalIn 10000 25 (.agg (nums .u8 xs)) (.agg (nums .u8 ys))).run Try.prog w = .ok (decide (xs = ys)) w := by
  rw [← all_same xs ys hx hy]
  exact eq_row xs ys hx hy 9998 w

end Go.Proofs.Ytlmmidlegdmjpaa.M
