/-
  Own text: whether calls may be, as the reference tells it.
-/
import Derived.Test.YtmfmjoibofadlaaOBase
namespace Go.Proofs.Ytmfmjoibofadlaa.M
open Go.ChangeShapes Go.WideShapes Go.ChangeAt Go.RowKit
set_option linter.unusedSimpArgs false

/-- No such call, as the reference tells it. -/
def Lo.bad (o : Lo) : Bool := decide (o.b < 1) || (decide (o.e < 0) || ((decide (0 < o.e) && decide (o.e ≤ o.b)) || (decide (o.v < 0) || (decide (1099511627776 < o.v) || decide (24 < o.s.size)))))

theorem bad_no (o : Lo) : o.bad = o.no := by
  unfold Lo.bad Lo.no
  by_cases h1 : o.b < 1
  · simp [h1]
  · by_cases h2 : o.e < 0
    · have h3 : o.e ≠ 0 := by omega
      have h4 : o.e ≤ o.b := by omega
      simp [h1, h2, h3, h4]
    · by_cases h3 : o.e = 0
      · simp [h1, h3, Bool.or_assoc]
      · have h4 : 0 < o.e := by omega
        have h5 : (o.e != 0) = true := by simp [h3]
        simp [h1, h2, h4, h5, Bool.or_assoc]

set_option maxRecDepth 20000 in
set_option maxHeartbeats 2000000 in
theorem refRight_any (p : Option Addr) (n c : Nat) (L : List Lo) (w : World) (hr : RdO w p n c L) :
    Calls Try.prog 10 #[.slice p n c] w fun e w' => e = .returned (.int .i64 (rightO L)) ∧ Below w.heap.size w w' := by
  have hl := hr.len
  by_cases h24 : 24 < n
  · have HR : Hid (rightO L = 4) := by unfold Hid rightO; rw [if_pos (by omega)]
    have hi : (24 : Int) < (n : Int) := by omega
    clear hr hl
    go_enter Try.func10, Try.ntmps10
    go_wp2_with fail
    go_ret
    exact ⟨ret_int HR.out.symm, Below.refl _ _⟩
  · have HR : Hid (rightO L = if (L.drop 0).any Lo.bad = true then 70 else 0) := by
      unfold Hid rightO
      rw [if_neg (by omega), List.drop_zero]
      have e : L.any Lo.no = L.any Lo.bad := by congr 1; funext o; exact (bad_no o).symm
      rw [e]
    have hi : ¬ (24 : Int) < (n : Int) := by omega
    go_enter Try.func10, Try.ntmps10
    go_wp2_with fail
    go_loopw [10] (fun vi wr => ∃ k : Nat, k ≤ n ∧ vi = .int .i64 k ∧ Hid (rightO L = if (L.drop k).any Lo.bad = true then 70 else 0) ∧ Below w.heap.size w wr) (fun vi _ => n - (intOf vi).toNat)
    case atStart => exact ⟨0, Nat.zero_le _, rfl, HR, Below.refl _ _⟩
    case round =>
      clear HR
      obtain ⟨k, hk, rfl, HR, hb⟩ := hrel
      by_cases hkn : k < n
      · obtain ⟨b, o, rfl, hc⟩ := (hr.below hb).cells (by omega)
        obtain ⟨x0, x1, x2, x3, x4⟩ := hc k hkn
        have hki : (k : Int) < (n : Int) := by omega
        have hd := drop_lo (fs := L) (k := k) (by omega)
        have hR2 := HR.out
        rw [hd, List.any_cons] at hR2
        generalize L.getD k .z0 = lo at *
        have hbb := hb.trans ((below_alloc wr (.cells #[.bool lo.w, .string lo.s, .int .i64 lo.v, .int .i64 lo.b, .int .i64 lo.e] 29)).mono hb.size)
        have hB := Bx.new wr lo 29
        obtain ⟨y0, y1, y2, y3, y4⟩ := hB
        have hbd : Hid (lo.bad = (decide (lo.b < 1) || (decide (lo.e < 0) || ((decide (0 < lo.e) && decide (lo.e ≤ lo.b)) || (decide (lo.v < 0) || (decide (1099511627776 < lo.v) || decide (24 < lo.s.size))))))) := rfl
        generalize lo.bad = bz at *
        obtain ⟨ow, os, ov, ob, oe⟩ := lo
        dsimp only at x0 x1 x2 x3 x4 y0 y1 y2 y3 y4 hbb hbd
        have HR2 : Hid (rightO L = if (bz || (L.drop (k + 1)).any Lo.bad) = true then 70 else 0) := hR2
        clear hR2 HR hd hc
        go_wp2_with fail
        all_goals first
          | (have hz : bz = true := by (rw [hbd.out]; simp; omega)
             go_ret
             exact ⟨ret_int (by rw [HR2.out, hz]; rfl), hbb⟩)
          | (have hz : bz = false := by (rw [hbd.out]; simp; omega)
             exact ⟨⟨k + 1, by omega, by go_num, by unfold Hid; rw [HR2.out, hz, Bool.false_or], hbb⟩, by simp [intOf]; omega⟩)
      · have HN : Hid (rightO L = 0) := by
          unfold Hid
          rw [HR.out, List.drop_of_length_le (by omega)]
          rfl
        have hki : ¬ (k : Int) < (n : Int) := by omega
        clear hr HR
        go_wp2_with fail
        go_ret
        exact ⟨ret_int HN.out.symm, hb⟩

end Go.Proofs.Ytmfmjoibofadlaa.M
