/-
  Own text: whether two keys, and two lists of what was seen, are the same: the contract of slices.Equal over them.
-/
import Derived.Test.YtphdbpljgilcgaaDoorSRow
import Derived.Laws.StructEq
import Derived.ChangeKeysEq
namespace Go.Proofs.YtphdbpljgilcgaaDoor.M
open Go.ChangeShapes Go.WideShapes Go.ChangeAt Go.RowKit
set_option linter.unusedSimpArgs false

theorem bt_inj {a b : Nat} (ha : a < 18446744073709551616) (hb : b < 18446744073709551616) (h : ∀ i, i < 8 → bt a i = bt b i) : a = b := by
  rw [← sh_eig a ha, ← sh_eig b hb, eigL_bt, eigL_bt, h 0 (by decide), h 1 (by decide), h 2 (by decide), h 3 (by decide), h 4 (by decide), h 5 (by decide), h 6 (by decide), h 7 (by decide)]

theorem u8_cells : Tryd.prog.cellsOf 5 = 1 := by kernel_rfl
theorem u8_some : ∃ i, Tryd.prog.info? 5 = some i := by
  have h : (Tryd.prog.info? 5).isSome = true := by kernel_rfl
  exact Option.isSome_iff_exists.1 h

/-- Eight that are the same, or not. -/
def eqBt (a b : Nat) : Bool := (bt a 0 == bt b 0) && ((bt a 1 == bt b 1) && ((bt a 2 == bt b 2) && ((bt a 3 == bt b 3) && ((bt a 4 == bt b 4) && ((bt a 5 == bt b 5) && ((bt a 6 == bt b 6) && (bt a 7 == bt b 7)))))))

theorem eqBt_dec {a b : Nat} (ha : a < 18446744073709551616) (hb : b < 18446744073709551616) : eqBt a b = decide (a = b) := by
  rw [Bool.eq_iff_iff, decide_eq_true_iff]
  constructor
  · intro h
    unfold eqBt at h
    simp only [Bool.and_eq_true, beq_iff_eq] at h
    obtain ⟨h0, h1, h2, h3, h4, h5, h6, h7⟩ := h
    refine bt_inj ha hb fun i hi => ?_
    match i, hi with
    | 0, _ => exact h0
    | 1, _ => exact h1
    | 2, _ => exact h2
    | 3, _ => exact h3
    | 4, _ => exact h4
    | 5, _ => exact h5
    | 6, _ => exact h6
    | 7, _ => exact h7
  · rintro rfl
    unfold eqBt
    simp

theorem eql_key (a b : Nat) (d : Nat) (w : World) : (Op.equalIn (d + 1 + 1) 34 (.agg #[.int .u8 (bt (a) 0), .int .u8 (bt (a) 1), .int .u8 (bt (a) 2), .int .u8 (bt (a) 3), .int .u8 (bt (a) 4), .int .u8 (bt (a) 5), .int .u8 (bt (a) 6), .int .u8 (bt (a) 7)]) (.agg #[.int .u8 (bt (b) 0), .int .u8 (bt (b) 1), .int .u8 (bt (b) 2), .int .u8 (bt (b) 3), .int .u8 (bt (b) 4), .int .u8 (bt (b) 5), .int .u8 (bt (b) 6), .int .u8 (bt (b) 7)])).run Tryd.prog w = .ok (eqBt a b) w := by
  obtain ⟨i, hi⟩ := u8_some
  have hu := Tryd.underlying5
  have ha := Tryd.isAgg5
  rw [run_equalIn_array w (d + 1) _ _ Tryd.underlying34 hi, u8_cells, show List.range 8 = [0, 1, 2, 3, 4, 5, 6, 7] from rfl]
  unfold eqBt
  generalize bt a 0 = x0
  generalize bt a 1 = x1
  generalize bt a 2 = x2
  generalize bt a 3 = x3
  generalize bt a 4 = x4
  generalize bt a 5 = x5
  generalize bt a 6 = x6
  generalize bt a 7 = x7
  simp [Op.eqItems, part, ha, run_equalIn_int w d _ .u8 .u8 _ _ hu]
  repeat (split <;> simp_all)

theorem eql_keys (a b : Nat) (ha : a < 18446744073709551616) (hb : b < 18446744073709551616) (w : World) : (binOp .eql 34 (.agg #[.int .u8 (bt (a) 0), .int .u8 (bt (a) 1), .int .u8 (bt (a) 2), .int .u8 (bt (a) 3), .int .u8 (bt (a) 4), .int .u8 (bt (a) 5), .int .u8 (bt (a) 6), .int .u8 (bt (a) 7)]) (.agg #[.int .u8 (bt (b) 0), .int .u8 (bt (b) 1), .int .u8 (bt (b) 2), .int .u8 (bt (b) 3), .int .u8 (bt (b) 4), .int .u8 (bt (b) 5), .int .u8 (bt (b) 6), .int .u8 (bt (b) 7)])).run Tryd.prog w = .ok (.bool (decide (a = b))) w := by
  rw [run_eql_struct, show (10000 : Nat) = 9998 + 1 + 1 from rfl, eql_key, eqBt_dec ha hb]
  rfl

end Go.Proofs.YtphdbpljgilcgaaDoor.M
