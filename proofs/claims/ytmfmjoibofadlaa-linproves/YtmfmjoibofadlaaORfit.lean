/-
  Own text: whether places are an order of calls, as the reference tells it.
-/
import Derived.Test.YtmfmjoibofadlaaONx
import Derived.Test.YtmfmjoibofadlaaORef
import Derived.Test.YtmfmjoibofadlaaOPast0
import Derived.Test.YtmfmjoibofadlaaOSe
namespace Go.Proofs.Ytmfmjoibofadlaa.M
open Go.ChangeShapes Go.WideShapes Go.ChangeAt Go.RowKit
set_option linter.unusedSimpArgs false

/-- Of the last m of n calls none that was answered is left. -/
def rfE (L : List Lo) (xs : List Bool) (n : Nat) : Nat → Bool
  | 0 => true
  | m + 1 => if xs.getD (n - (m + 1)) false = true ∧ 0 < (L.getD (n - (m + 1)) .z0).e then false else rfE L xs n m

theorem rfE_iff (L : List Lo) (xs : List Bool) (n : Nat) : ∀ m, m ≤ n → (rfE L xs n m = true ↔ ∀ k, n - m ≤ k → k < n → ¬ (xs.getD k false = true ∧ 0 < (L.getD k .z0).e))
  | 0, _ => ⟨fun _ k h1 h2 => by omega, fun _ => rfl⟩
  | m + 1, hm => by
    unfold rfE
    by_cases h : xs.getD (n - (m + 1)) false = true ∧ 0 < (L.getD (n - (m + 1)) .z0).e
    · rw [if_pos h]
      refine ⟨fun e => absurd e (by decide), fun H => absurd h (H _ (Nat.le_refl _) (by omega))⟩
    · rw [if_neg h, rfE_iff L xs n m (by omega)]
      refine ⟨fun H k h1 h2 => ?_, fun H k h1 h2 => H k (by omega) h2⟩
      by_cases e : k = n - (m + 1)
      · subst e; exact h
      · exact H k (by omega) h2

/-- Whether an order goes on by these places, when these are left and the register has this. -/
def rfG (L : List Lo) (n : Nat) : List Int → List Bool → ByteArray → Bool
  | [], xs, _ => rfE L xs n n
  | i :: r, xs, v =>
    if i < 0 ∨ (n : Int) ≤ i then false
    else if xs.getD i.toNat false = false then false
    else if nxA L xs i.toNat n n = false then false
    else if (L.getD i.toNat .z0).w = true then rfG L n r (xs.set i.toNat false) (L.getD i.toNat .z0).s
    else if ((L.getD i.toNat .z0).s.toList == v.toList) = true then rfG L n r (xs.set i.toNat false) v
    else false

/-- What the reference's Fits tells. -/
def rfO (L : List Lo) (row : List Int) : Bool := if rightO L = 0 then rfG L L.length row (List.replicate L.length true) ⟨#[]⟩ else false

/-- The first k of n. -/
def firN (n k : Nat) : List Bool := (List.range n).map fun i => decide (i < k)

theorem firN_len (n k : Nat) : (firN n k).length = n := by simp [firN]

theorem firN_get (n k i : Nat) (h : i < (firN n k).length) : (firN n k)[i] = decide (i < k) := by simp [firN]

theorem firN_set (n k : Nat) : (firN n k).set k true = firN n (k + 1) := by
  apply List.ext_getElem
  · simp [firN_len]
  · intro i h1 h2
    rw [List.getElem_set, firN_get]
    by_cases e : k = i
    · rw [if_pos e, firN_get, decide_eq_true (by omega)]
    · rw [if_neg e, firN_get]
      by_cases e2 : i < k
      · rw [decide_eq_true e2, decide_eq_true (by omega)]
      · rw [decide_eq_false e2, decide_eq_false (by omega)]

theorem firN_zero (n : Nat) : firN n 0 = List.replicate n false := by
  apply List.ext_getElem
  · simp [firN_len]
  · intro i h1 h2
    rw [firN_get]
    simp

theorem firN_all (n : Nat) : firN n n = List.replicate n true := by
  apply List.ext_getElem
  · simp [firN_len]
  · intro i h1 h2
    rw [firN_len] at h1
    rw [firN_get]
    simp [h1]

theorem made_boos (n : Nat) : madeCells (Value.bool false).cells (n * 1) = boos (List.replicate n false) := by
  rw [Nat.mul_one]
  apply Array.ext
  · simp [madeCells, boos]
  · intro i h1 h2
    simp [madeCells, boos, Value.cells, Nat.mod_one]

theorem infoB : (Try.prog.info? 4).map (fun i => (i.zero, i.size, i.bytes)) = some (some (.bool false), 1, 1) := by kernel_rfl

theorem run_makeB (W : World) (n : Nat) (hn : n ≤ 1099511627776) : (Instr.makeSlice 33 (.int .i64 n) (.int .i64 n)).run Try.prog W = .ok (.slice (some ⟨W.heap.size, 0, none⟩) n n) (W.alloc (.cells (boos (List.replicate n false)) 4)) := by
  obtain ⟨i, hi, hz, hs, hb⟩ := info_parts infoB
  have h := run_make W 33 4 i _ Try.underlying33 hi hz .i64 .i64 n n (by omega) (by omega) (by rw [hb]; omega) (by omega)
  rw [hs, Int.toNat_natCast, made_boos] at h
  exact h

set_option maxRecDepth 20000 in
set_option maxHeartbeats 4000000 in
theorem refFits_any (rp : Option Addr) (rn rc : Nat) (row : List Int) (p : Option Addr) (n c : Nat) (L : List Lo) (w : World) (hrow : Rd .i64 w rp rn rc row) (hrn : rn ≤ 1099511627776) (hr : RdO w p n c L) :
    Calls Try.prog 15 #[.slice rp rn rc, .slice p n c] w fun e w' => e = .returned (.bool (rfO L row)) ∧ Below w.heap.size w w' := by
  have hR := refRight_any p n c L w hr
  have hlen := hr.len
  by_cases h0 : rightO L = 0
  · have hE : Hid (rfO L row = rfG L n row (List.replicate n true) ⟨#[]⟩) := by unfold Hid rfO; rw [if_pos h0, hlen]
    have h24 : n ≤ 24 := by
      unfold rightO at h0
      split at h0
      · cases h0
      · omega
    rw [h0] at hR
    have hM := fun V => run_makeB V n (by omega)
    clear h0
    go_enter Try.func15, Try.ntmps15
    go_wp2_with fail
    refine hR.mono ?_
    rintro e1 w1 ⟨rfl, hb1⟩
    clear hR
    go_wp2_with fail
    clear hM
    have hB0 : BR (w1.alloc (.cells (boos (List.replicate n false)) 4)) w1.heap.size (firN n 0) := by rw [firN_zero]; exact At.new _ _ _
    have hbb0 := hb1.trans ((below_alloc w1 (.cells (boos (List.replicate n false)) 4)).mono hb1.size)
    have hgs := hb1.size
    generalize (w1.alloc (.cells (boos (List.replicate n false)) 4)) = w2 at *
    generalize w1.heap.size = g at *
    clear hb1
    go_loopw [20] (fun vi wr => ∃ k : Nat, k ≤ n ∧ vi = .int .i64 k ∧ BR wr g (firN n k) ∧ Below w.heap.size w wr) (fun vi _ => n - (intOf vi).toNat)
    case atStart => exact ⟨0, Nat.zero_le _, rfl, hB0, hbb0⟩
    case round =>
      clear hB0 hbb0
      obtain ⟨k, hk, rfl, hB, hb⟩ := hrel
      by_cases hkn : k < n
      · have hki : (k : Int) < (n : Int) := by omega
        have y0 := hB.cell (i := k) (by rw [firN_len]; exact hkn)
        have y1 := hB.free k
        have hB2 := hB.set k true
        rw [firN_set] at hB2
        have hb2 := hb.setCell (p := ⟨g, k, none⟩) hgs (.bool true)
        clear hB hb
        go_wp2_with fail
        go_roundw
        case rel => exact ⟨k + 1, by omega, by go_num, hB2, hb2⟩
        case measure => simp [intOf]; omega
      · obtain rfl : k = n := by omega
        rw [firN_all] at hB
        have hE2 : Hid (rfO L row = rfG L k (row.drop 0) (List.replicate k true) ⟨#[]⟩) := hE
        have hxl : Hid ((List.replicate k true).length = k) := List.length_replicate ..
        generalize hxs0 : List.replicate k true = xs0 at *
        clear hxs0 hE hk hkn
        have hLn : Hid (L.length = k) := hlen
        clear hlen
        go_wp2_with fail
        go_loopw [29, 7] (fun vi vs wr => ∃ (j : Nat) (xs : List Bool) (v : ByteArray), j ≤ rn ∧ vi = .int .i64 j ∧ vs = .string v ∧ Hid (xs.length = k) ∧ BR wr g xs ∧ Below w.heap.size w wr ∧ Hid (rfO L row = rfG L k (row.drop j) xs v)) (fun vi _ _ => rn - (intOf vi).toNat)
        case atStart => exact ⟨0, xs0, ⟨#[]⟩, Nat.zero_le _, rfl, rfl, hxl, hB, hb, hE2⟩
        case round =>
          clear hB hb hE2 hxl
          obtain ⟨j, xs, v, hj, rfl, rfl, hxl, hB, hb, HG⟩ := hrel
          by_cases hjn : j < rn
          · have hji : (j : Int) < (rn : Int) := by omega
            obtain ⟨b, o, rfl, hrc⟩ := (hrow.below hb).cells (by omega)
            have y0 := hrc j hjn
            clear hrc
            have hdr : row.drop j = row.getD j 0 :: row.drop (j + 1) := drop_int (by have := hrow.len; omega)
            have hG2 := HG.out
            rw [hdr] at hG2
            unfold rfG at hG2
            clear HG hdr
            generalize row.getD j 0 = i at *
            by_cases hi0 : i < 0
            · rw [if_pos (Or.inl hi0)] at hG2
              have HN : Hid (rfO L row = false) := hG2
              clear hG2
              go_wp2_with fail
              go_ret
              exact ⟨ret_bool HN.out.symm, hb⟩
            · by_cases hin : (k : Int) ≤ i
              · rw [if_pos (Or.inr hin)] at hG2
                have HN : Hid (rfO L row = false) := hG2
                clear hG2
                go_wp2_with fail
                go_ret
                exact ⟨ret_bool HN.out.symm, hb⟩
              · rw [if_neg (by omega)] at hG2
                obtain ⟨m, rfl⟩ : ∃ m : Nat, i = (m : Int) := ⟨i.toNat, by omega⟩
                rw [Int.toNat_natCast] at hG2
                have hm : m < k := by omega
                have y1 := hB.cell (i := m) (by rw [hxl.out]; exact hm)
                have hxl2 : Hid ((xs.set m false).length = k) := by unfold Hid; rw [List.length_set]; exact hxl.out
                have hNx := next_any wr p k c L (hr.below hb) (by omega) g k xs hB hxl.out m hm
                obtain ⟨xm, hxm⟩ : ∃ xm, xm = xs.getD m false := ⟨_, rfl⟩
                rw [← hxm] at hG2 y1
                cases xm with
                | false =>
                  rw [if_pos rfl] at hG2
                  have HN : Hid (rfO L row = false) := hG2
                  clear hG2 hNx hxl2 hxm
                  go_wp2_with fail
                  go_ret
                  exact ⟨ret_bool HN.out.symm, hb⟩
                | true =>
                  rw [if_neg (by decide)] at hG2
                  generalize nxA L xs m k k = zn at *
                  have hG3 : Hid (rfO L row = _) := hG2
                  clear hG2 hxm
                  go_wp2_with fail
                  refine hNx.mono ?_
                  rintro e3 w3 ⟨rfl, hb3⟩
                  clear hNx
                  have hbb := hb.trans (hb3.mono hb.size)
                  have hB1 := hB.below hb3
                  have y2 := hB1.free m
                  have y3 := hB1.cell (i := m) (by rw [hxl.out]; exact hm)
                  have hB2 := hB1.set m false
                  have hb4 := hbb.setCell (p := ⟨g, m, none⟩) hgs (.bool false)
                  have hrm := hr.below hbb
                  have hki : (m : Int) < (k : Int) := by omega
                  clear hB hb hb3 hB1 y0 y1
                  cases zn with
                  | false =>
                    have HN : Hid (rfO L row = false) := hG3.out.trans (if_pos rfl)
                    clear hG3 hB2 hxl2
                    go_wp2_with fail
                    go_ret
                    exact ⟨ret_bool HN.out.symm, hbb⟩
                  | true =>
                    have hG4 := hG3.out.trans (if_neg (by decide))
                    clear hG3
                    obtain ⟨b2, o2, rfl, hc⟩ := hrm.cells (by omega)
                    obtain ⟨x0, x1, _, _, _⟩ := hc m hm
                    generalize L.getD m .z0 = lm at *
                    obtain ⟨lw, ls, lv, lb, le⟩ := lm
                    dsimp only at x0 x1 hG4
                    clear hc hrm
                    cases lw with
                    | true =>
                      have HN : Hid (rfO L row = rfG L k (row.drop (j + 1)) (xs.set m false) ls) := hG4.trans (if_pos rfl)
                      clear hG4
                      go_wp2_with fail
                      go_roundw
                      case rel => exact ⟨j + 1, xs.set m false, ls, by omega, by go_num, rfl, hxl2, hB2, hb4, HN⟩
                      case measure => simp [intOf]; omega
                    | false =>
                      have hG5 := hG4.trans (if_neg (by decide))
                      clear hG4
                      obtain ⟨zs, hzs⟩ : ∃ zs, zs = (ls.toList == v.toList) := ⟨_, rfl⟩
                      rw [← hzs] at hG5
                      cases zs with
                      | true =>
                        have HN : Hid (rfO L row = rfG L k (row.drop (j + 1)) (xs.set m false) v) := hG5.trans (if_pos rfl)
                        have hzs2 := hzs.symm
                        clear hG5 hzs
                        go_wp2_with fail
                        go_roundw
                        case rel => exact ⟨j + 1, xs.set m false, v, by omega, by go_num, rfl, hxl2, hB2, hb4, HN⟩
                        case measure => simp [intOf]; omega
                      | false =>
                        have HN : Hid (rfO L row = false) := hG5.trans (if_neg (by decide))
                        have hzs2 := hzs.symm
                        clear hG5 hzs
                        go_wp2_with fail
                        go_ret
                        exact ⟨ret_bool HN.out.symm, hbb⟩
          · have hG2 : Hid (rfO L row = rfE L xs k (k - 0)) := by
              unfold Hid
              rw [HG.out, List.drop_of_length_le (by have := hrow.len; omega)]
              rfl
            have hjj : ¬ (j : Int) < (rn : Int) := by omega
            clear HG hrow
            go_wp2_with fail
            go_loopw [78] (fun vi wr => ∃ q : Nat, q ≤ k ∧ vi = .int .i64 q ∧ BR wr g xs ∧ Below w.heap.size w wr ∧ Hid (rfO L row = rfE L xs k (k - q))) (fun vi _ => k - (intOf vi).toNat)
            case atStart => exact ⟨0, Nat.zero_le _, rfl, hB, hb, hG2⟩
            case round =>
              clear hB hb hG2 hj hjj
              obtain ⟨q, hq, rfl, hB, hb, HG⟩ := hrel
              by_cases hqk : q < k
              · have hqi : (q : Int) < (k : Int) := by omega
                obtain ⟨b2, o2, rfl, hc⟩ := (hr.below hb).cells (by omega)
                obtain ⟨x0, x1, x2, x3, x4⟩ := hc q hqk
                have hG3 : Hid (rfO L row = if xs.getD q false = true ∧ 0 < (L.getD q .z0).e then false else rfE L xs k (k - (q + 1))) := by
                  unfold Hid
                  rw [HG.out]
                  obtain ⟨m, hm⟩ : ∃ m, k - q = m + 1 := ⟨k - q - 1, by omega⟩
                  have e1 : k - (m + 1) = q := by omega
                  have e2 : k - (q + 1) = m := by omega
                  rw [hm, e2]
                  show (if xs.getD (k - (m + 1)) false = true ∧ 0 < (L.getD (k - (m + 1)) .z0).e then false else rfE L xs k m) = _
                  rw [e1]
                have hb0 := below_alloc wr (.cells #[.bool (L.getD q .z0).w, .string (L.getD q .z0).s, .int .i64 (L.getD q .z0).v, .int .i64 (L.getD q .z0).b, .int .i64 (L.getD q .z0).e] 29)
                obtain ⟨_, _, _, _, b4⟩ := Bx.new wr (L.getD q .z0) 29
                have hbb := hb.trans (hb0.mono hb.size)
                have hB1 := hB.below hb0
                have y3 := hB1.cell (i := q) (by rw [hxl.out]; exact hqk)
                clear HG hc hB hb
                generalize L.getD q .z0 = lq at *
                generalize xs.getD q false = xq at *
                obtain ⟨lw, ls, lv, lb, le⟩ := lq
                dsimp only at *
                cases xq with
                | false =>
                  have HN : Hid (rfO L row = rfE L xs k (k - (q + 1))) := hG3.out.trans (if_neg fun h => absurd h.1 (by decide))
                  clear hG3
                  go_wp2_with fail
                  go_roundw
                  case rel => exact ⟨q + 1, by omega, by go_num, hB1, hbb, HN⟩
                  case measure => simp [intOf]; omega
                | true =>
                  by_cases hle : 0 < le
                  · have HN : Hid (rfO L row = false) := hG3.out.trans (if_pos ⟨rfl, hle⟩)
                    clear hG3
                    go_wp2_with fail
                    go_ret
                    exact ⟨ret_bool HN.out.symm, hbb⟩
                  · have HN : Hid (rfO L row = rfE L xs k (k - (q + 1))) := hG3.out.trans (if_neg fun h => hle h.2)
                    clear hG3
                    go_wp2_with fail
                    go_roundw
                    case rel => exact ⟨q + 1, by omega, by go_num, hB1, hbb, HN⟩
                    case measure => simp [intOf]; omega
              · have HN : Hid (rfO L row = true) := by
                  unfold Hid
                  rw [HG.out, show k - q = 0 by omega]
                  rfl
                have hqi : ¬ (q : Int) < (k : Int) := by omega
                clear HG
                go_wp2_with fail
                go_ret
                exact ⟨ret_bool HN.out.symm, hb⟩
  · have hE : Hid (rfO L row = false) := by unfold Hid rfO; rw [if_neg h0]
    clear hrow hr
    generalize rightO L = z at *
    go_enter Try.func15, Try.ntmps15
    go_wp2_with fail
    refine hR.mono ?_
    rintro e1 w1 ⟨rfl, hb1⟩
    clear hR
    go_wp2_with fail
    go_ret
    exact ⟨ret_bool hE.out.symm, hb1⟩

end Go.Proofs.Ytmfmjoibofadlaa.M
