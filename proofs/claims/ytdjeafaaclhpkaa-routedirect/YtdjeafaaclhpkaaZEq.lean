/-
  Own text: ways are the same as themselves.
-/
import Derived.Test.YtdjeafaaclhpkaaZDir
import Derived.Laws.StructEq
import Derived.ChangeKeysEq
namespace Go.Proofs.Ytdjeafaaclhpkaa.M
open Go.ChangeShapes Go.WideShapes Go.ChangeAt Go.RowKit

theorem int_cells : Try.prog.cellsOf 3 = 1 := by kernel_rfl
theorem row_cells : Try.prog.cellsOf 22 = 3 := by kernel_rfl
theorem int_some : ∃ i, Try.prog.info? 3 = some i := by
  have h : (Try.prog.info? 3).isSome = true := by kernel_rfl
  exact Option.isSome_iff_exists.1 h
theorem row_some : ∃ i, Try.prog.info? 22 = some i := by
  have h : (Try.prog.info? 22).isSome = true := by kernel_rfl
  exact Option.isSome_iff_exists.1 h

theorem eql_row (x0 x1 x2 : Int) (d : Nat) (w : World) : (Op.equalIn (d + 1 + 1) 22 (.agg #[.int .i64 x0, .int .i64 x1, .int .i64 x2]) (.agg #[.int .i64 x0, .int .i64 x1, .int .i64 x2])).run Try.prog w = .ok true w := by
  obtain ⟨i, hi⟩ := int_some
  have hu := Try.underlying3
  have ha := Try.isAgg3
  rw [run_equalIn_array w (d + 1) _ _ Try.underlying22 hi, int_cells, show List.range 3 = [0, 1, 2] from rfl]
  simp [Op.eqItems, part, ha, run_equalIn_int w d _ .i64 .i64 _ _ hu]

theorem eql_nine (a0 a1 a2 a3 a4 a5 a6 a7 a8 : Int) (w : World) : (binOp .eql 24 (.agg #[.int .i64 a0, .int .i64 a1, .int .i64 a2, .int .i64 a3, .int .i64 a4, .int .i64 a5, .int .i64 a6, .int .i64 a7, .int .i64 a8]) (.agg #[.int .i64 a0, .int .i64 a1, .int .i64 a2, .int .i64 a3, .int .i64 a4, .int .i64 a5, .int .i64 a6, .int .i64 a7, .int .i64 a8])).run Try.prog w = .ok (.bool true) w := by
  obtain ⟨i, hi⟩ := row_some
  have ha := Try.isAgg22
  have hz := Try.sizeOf22
  rw [run_eql_struct, show (10000 : Nat) = 9997 + 1 + 1 + 1 from rfl, run_equalIn_array w (9997 + 1 + 1) _ _ Try.underlying24 hi, row_cells, show List.range 3 = [0, 1, 2] from rfl]
  have e0 : (#[.int .i64 a0, .int .i64 a1, .int .i64 a2, .int .i64 a3, .int .i64 a4, .int .i64 a5, .int .i64 a6, .int .i64 a7, .int .i64 a8] : Array Value).extract 0 3 = #[.int .i64 a0, .int .i64 a1, .int .i64 a2] := rfl
  have e1 : (#[.int .i64 a0, .int .i64 a1, .int .i64 a2, .int .i64 a3, .int .i64 a4, .int .i64 a5, .int .i64 a6, .int .i64 a7, .int .i64 a8] : Array Value).extract 3 6 = #[.int .i64 a3, .int .i64 a4, .int .i64 a5] := rfl
  have e2 : (#[.int .i64 a0, .int .i64 a1, .int .i64 a2, .int .i64 a3, .int .i64 a4, .int .i64 a5, .int .i64 a6, .int .i64 a7, .int .i64 a8] : Array Value).extract 6 9 = #[.int .i64 a6, .int .i64 a7, .int .i64 a8] := rfl
  simp only [Op.eqItems, part, Sem.run_bind, ha, hz, Sem.run_ite, Result.andThen_ok, Sem.run_pure, if_true, Nat.zero_mul, Nat.zero_add, Nat.one_mul, Nat.reduceMul, Nat.reduceAdd, e0, e1, e2, eql_row, Bool.not_true, Bool.false_eq_true, if_false]

end Go.Proofs.Ytdjeafaaclhpkaa.M
