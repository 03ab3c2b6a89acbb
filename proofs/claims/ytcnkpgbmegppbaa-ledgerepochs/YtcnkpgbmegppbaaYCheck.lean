/-
  Own text: whether a chain may be, in plain words; the contract of the program's Check.
-/
import Derived.Test.YtcnkpgbmegppbaaYBase
namespace Go.Proofs.Ytcnkpgbmegppbaa.M
open Go.ChangeShapes Go.WideShapes Go.ChangeAt Go.RowKit

/-- Members, some of which were there (x) and up to a site (t): each may be, none is there twice, sites never fall. -/
def goC : Nat → Int → List Mb → Bool
  | _, _, [] => true
  | x, t, m :: l => isMb m && (!hasN x m.n && (decide (t ≤ m.s) && goC (x ||| bitN m.n) m.s l))

/-- Whether the first one is there, and not fresh. -/
def headOk : List Mb → Bool
  | [] => false
  | m :: _ => !m.f

/-- Whether a chain may be. -/
def chk (e : Int) (ms : List Mb) : Bool := decide (1 ≤ e) && (decide (e ≤ 1099511627776) && (headOk ms && goC 0 0 ms))

/-- What Check answers. -/
def chkV (b : Bool) : Value := .int .i64 (if b then 0 else 80)

theorem ret_chk {a b : Bool} (h : a = b) : Ending.returned (chkV a) = .returned (chkV b) := by rw [h]

theorem headOk_get {ms : List Mb} (h : 0 < ms.length) : headOk ms = !(ms.getD 0 .z0).f := by
  match ms, h with
  | m :: l, _ => rfl

set_option maxRecDepth 20000 in
set_option maxHeartbeats 2000000 in
theorem Check_any (e : Int) (p : Option Addr) (n c : Nat) (ms : List Mb) (w : World) (hr : RdM w p n c ms) (hn : n ≤ 5864062014805) :
    Calls Try.prog 21 #[.agg #[.int .i64 e, .slice p n c]] w fun r w' => r = .returned (chkV (chk e ms)) ∧ Below w.heap.size w w' := by
  have hl := hr.len
  have hb0 : Below w.heap.size w (w.alloc (.cells #[.int .i64 e, .slice p n c] 42)) := (Below.refl _ _).alloc (Nat.le_refl _) _
  by_cases h1 : e < 1
  · have HC : Hid (chk e ms = false) := by unfold Hid chk; rw [decide_eq_false (by omega)]; rfl
    clear hr hl hn
    go_enter Try.func21, Try.ntmps21
    go_wp2_with fail
    go_ret
    exact ⟨by rw [HC.out]; rfl, hb0⟩
  by_cases h2 : 1099511627776 < e
  · have HC : Hid (chk e ms = false) := by unfold Hid chk; rw [decide_eq_true (by omega), decide_eq_false (by omega)]; rfl
    clear hr hl hn
    go_enter Try.func21, Try.ntmps21
    go_wp2_with fail
    go_ret
    exact ⟨by rw [HC.out]; rfl, hb0⟩
  by_cases h3 : n = 0
  · subst h3
    obtain rfl : ms = [] := List.length_eq_zero_iff.1 hl
    have HC : Hid (chk e [] = false) := by unfold Hid chk; rw [decide_eq_true (by omega), decide_eq_true (by omega)]; rfl
    clear hr hl hn
    go_enter Try.func21, Try.ntmps21
    go_wp2_with fail
    go_ret
    exact ⟨by rw [HC.out]; rfl, hb0⟩
  have h4 : 0 < n := by omega
  obtain ⟨b, o, rfl, hc⟩ := hr.cells h4
  have hlt := World.block_lt_of_cell? _ _ (hc 0 h4).1
  have hf0 : w.cell? ⟨b, o + 2, none⟩ = some (.bool (ms.getD 0 .z0).f) := by have := (hc 0 h4).2.2; rwa [Nat.zero_mul, Nat.add_zero] at this
  have hfa : (w.alloc (.cells #[.int .i64 e, .slice (some ⟨b, o, none⟩) n c] 42)).cell? ⟨b, o + 2, none⟩ = some (.bool (ms.getD 0 .z0).f) := by rw [hb0.cell (p := ⟨b, o + 2, none⟩) hlt]; exact hf0
  have hh := headOk_get (ms := ms) (by omega)
  have HCC : Hid (chk e ms = (headOk ms && goC 0 0 ms)) := by unfold Hid chk; rw [decide_eq_true (by omega), decide_eq_true (by omega)]; rfl
  cases hfr : (ms.getD 0 .z0).f with
  | true =>
    have HC : Hid (chk e ms = false) := by unfold Hid; rw [HCC.out, hh, hfr]; rfl
    rw [hfr] at hfa hf0
    clear hr hh hfr HCC hc
    go_enter Try.func21, Try.ntmps21
    go_wp2_with fail
    go_ret
    exact ⟨by rw [HC.out]; rfl, hb0⟩
  | false =>
    have HC : Hid (chk e ms = goC 0 0 ms) := by unfold Hid; rw [HCC.out, hh, hfr]; rfl
    rw [hfr] at hfa hf0
    clear hh hfr HCC
    go_enter Try.func21, Try.ntmps21
    go_wp2_with fail
    go_loopw [3, 4, 31] (fun x t i wr => ∃ (k : Nat) (X : Nat) (T : Int), k ≤ n ∧ X < 18446744073709551616 ∧ i = .int .i64 k ∧ x = .int .u64 X ∧ t = .int .i64 T ∧ Hid (goC 0 0 ms = goC X T (ms.drop k)) ∧ Below w.heap.size w wr) (fun _ _ i _ => n - (intOf i).toNat)
    case atStart => exact ⟨0, 0, 0, Nat.zero_le _, by decide, rfl, rfl, rfl, rfl, hb0⟩
    case round =>
      clear hb0 hfa hf0 hlt
      obtain ⟨k, X, T, hk, hX, rfl, rfl, rfl, HG, hb⟩ := hrel
      by_cases h : k < n
      · obtain ⟨g1, g2, g3⟩ := hc k h
        have hlt := World.block_lt_of_cell? _ _ g1
        replace g1 := (hb.cell (p := ⟨b, o + k * 3, none⟩) hlt).trans g1
        replace g2 := (hb.cell (p := ⟨b, o + k * 3 + 1, none⟩) hlt).trans g2
        replace g3 := (hb.cell (p := ⟨b, o + k * 3 + 2, none⟩) hlt).trans g3
        have hd := drop_mb (fs := ms) (k := k) (by omega)
        have hG2 := HG.out
        rw [hd] at hG2
        clear HG hd hc hr
        generalize ms.getD k .z0 = m at *
        obtain ⟨mn, msi, mf⟩ := m
        dsimp only at g1 g2 g3
        have hI := fun W => isMember_any ⟨mn, msi, mf⟩ W
        have hH := fun W => has_any X mn W hX
        have hW := fun W => with_any X mn W hX
        have hXl := or_lt64 hX (bitN_lt mn)
        dsimp only at hI
        have HG3 : Hid (goC 0 0 ms = (isMb ⟨mn, msi, mf⟩ && (!hasN X mn && (decide (T ≤ msi) && goC (X ||| bitN mn) msi (ms.drop (k + 1)))))) := hG2
        clear hG2
        have hba := hb.alloc hb.size (.cells #[.int .i64 mn, .int .i64 msi, .bool mf] 48)
        generalize X ||| bitN mn = X2 at *
        generalize isMb ⟨mn, msi, mf⟩ = b1 at *
        generalize hasN X mn = b2 at *
        clear hl
        go_wp2_with fail
        refine (hI _).mono ?_
        rintro r w1 ⟨rfl, hb1⟩
        have hbb := hba.trans (hb1.mono hba.size)
        have d0 : w1.cell? ⟨wr.heap.size, 0, none⟩ = some (.int .i64 mn) := by rw [hb1.cell (p := ⟨wr.heap.size, 0, none⟩) (by simp)]; simp
        have d1 : w1.cell? ⟨wr.heap.size, 1, none⟩ = some (.int .i64 msi) := by rw [hb1.cell (p := ⟨wr.heap.size, 1, none⟩) (by simp)]; simp
        clear g1 g2 g3 hb hb1 hba hI
        cases b1 with
        | false =>
          have HN : Hid (chk e ms = false) := by unfold Hid; rw [HC.out, HG3.out]; rfl
          go_wp2_with fail
          go_ret
          exact ⟨by rw [HN.out]; rfl, hbb⟩
        | true =>
          go_wp2_with fail
          refine (hH _).mono ?_
          rintro r w2 ⟨rfl, hw⟩
          subst hw
          cases b2 with
          | true =>
            have HN : Hid (chk e ms = false) := by unfold Hid; rw [HC.out, HG3.out]; rfl
            go_wp2_with fail
            go_ret
            exact ⟨by rw [HN.out]; rfl, hbb⟩
          | false =>
            by_cases ht : msi < T
            · have HN : Hid (chk e ms = false) := by unfold Hid; rw [HC.out, HG3.out, decide_eq_false (by omega)]; rfl
              go_wp2_with fail
              go_ret
              exact ⟨by rw [HN.out]; rfl, hbb⟩
            · have HN : Hid (goC 0 0 ms = goC X2 msi (ms.drop (k + 1))) := by unfold Hid; rw [HG3.out, decide_eq_true (by omega)]; rfl
              clear HG3
              go_wp2_with fail
              go_quiet ((go_at_call 47; exact Calls.quiet_of_same (hW _)))
              go_wp2_with fail
              go_roundw
              case rel => exact ⟨k + 1, X2, msi, by omega, hXl, by go_num, rfl, rfl, HN, below_drewN hbb nq⟩
              case measure => simp [intOf]; omega
      · obtain rfl : k = n := by omega
        have hd : ms.drop k = [] := List.drop_of_length_le (by omega)
        have HN : Hid (chk e ms = true) := by
          unfold Hid; rw [HC.out, HG.out, hd]; rfl
        clear HG hd hr hl hc
        go_wp2_with fail
        go_ret
        exact ⟨by rw [HN.out]; rfl, hb⟩

end Go.Proofs.Ytcnkpgbmegppbaa.M
