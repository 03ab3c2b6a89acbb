/-
  Own text: the numbers of a set as a rising list; contracts of mask's All, of the reference's All, Rank and At, and of slices.Equal over ints.
-/
import Derived.Test.YtbbcondoenmapacDoorKTurn
namespace Go.Proofs.YtbbcondoenmapacDoor.M
open Go.ChangeShapes Go.WideShapes Go.ChangeAt Go.RowKit

/-- The numbers below n that are so, rising. -/
def allL (p : Nat → Bool) : Nat → List Int
  | 0 => []
  | n + 1 => allL p n ++ (if p n then [(n : Int)] else [])

theorem allL_len (p : Nat → Bool) : ∀ n, (allL p n).length = cnt p n
  | 0 => rfl
  | n + 1 => by
    unfold allL cnt
    rw [List.length_append, allL_len p n]
    cases p n <;> rfl

theorem allL_step {p : Nat → Bool} {k : Nat} (h : p k = true) : allL p (k + 1) = allL p k ++ [(k : Int)] := by
  show allL p k ++ (if p k then [(k : Int)] else []) = _
  rw [if_pos h]

theorem allL_skip {p : Nat → Bool} {k : Nat} (h : p k = false) : allL p (k + 1) = allL p k := by
  show allL p k ++ (if p k then [(k : Int)] else []) = _
  rw [if_neg (by rw [h]; decide), List.append_nil]

theorem cnt_step {p : Nat → Bool} {k : Nat} (h : p k = true) : cnt p (k + 1) = cnt p k + 1 := by
  show cnt p k + (p k).toNat = _
  rw [h]; rfl

theorem cnt_skip {p : Nat → Bool} {k : Nat} (h : p k = false) : cnt p (k + 1) = cnt p k := by
  show cnt p k + (p k).toNat = _
  rw [h]; rfl

/-- The i-th one has i below it. -/
theorem allL_get (p : Nat → Bool) : ∀ n i, i < cnt p n → ∃ j : Nat, j < n ∧ p j = true ∧ cnt p j = i ∧ (allL p n).getD i 0 = (j : Int)
  | 0, i, h => absurd h (Nat.not_lt_zero _)
  | n + 1, i, h => by
    cases hp : p n with
    | false =>
      rw [cnt_skip hp] at h
      rw [allL_skip hp]
      obtain ⟨j, h1, h2⟩ := allL_get p n i h
      exact ⟨j, by omega, h2⟩
    | true =>
      rw [cnt_step hp] at h
      rw [allL_step hp, List.getD_eq_getElem?_getD]
      by_cases hi : i < cnt p n
      · obtain ⟨j, h1, h2, h3, h4⟩ := allL_get p n i hi
        refine ⟨j, by omega, h2, h3, ?_⟩
        rw [List.getElem?_append_left (by rw [allL_len]; exact hi), ← List.getD_eq_getElem?_getD]
        exact h4
      · refine ⟨n, by omega, hp, by omega, ?_⟩
        rw [List.getElem?_append_right (by rw [allL_len]; omega), allL_len, show i - cnt p n = 0 by omega]
        rfl

theorem infoI : (Tryd.prog.info? 3).map (fun i => (i.zero, i.size, i.bytes)) = some (some (.int .i64 0), 1, 8) := by kernel_rfl

theorem Rd.one (k : IntKind) (w : World) (e : TypeId) (x : Int) : Rd k (w.alloc (.cells #[.int k x] e)) (some ⟨w.heap.size, 0, none⟩) 1 1 [x] := by
  refine ⟨rfl, Nat.le_refl _, (fun h => by cases h), fun _ => ⟨w.heap.size, 0, rfl, fun i hi => ?_⟩⟩
  obtain rfl : i = 0 := by omega
  simp

theorem below_alloc (w : World) (o : Obj) : Below w.heap.size w (w.alloc o) := (Below.refl _ _).alloc (Nat.le_refl _) o

set_option maxRecDepth 20000 in
set_option maxHeartbeats 400000 in
theorem all_any (x : Nat) (w : World) (hx : x < 18446744073709551616) :
    Calls Tryd.prog 21 #[.int .u64 x] w fun e w' => ∃ p c, e = .returned (.slice p (pop x) c) ∧ Rd .i64 w' p (pop x) c (allL (bt x) 64) ∧ Below w.heap.size w w' := by
  obtain ⟨i0, hi, hz0, hz1, hz2⟩ := info_parts infoI
  have cH : ∀ (k : Nat) W, k < 64 → Calls Tryd.prog 11 #[.int .u64 x, .int .i64 k] W fun e w' => e = .returned (.bool (bt x k)) ∧ w' = W := by
    intro k W hk
    have h := has_any x k W hx
    have e : hasN x (k : Int) = bt x k := by
      unfold hasN bt
      rw [decide_eq_true (by omega), Int.toNat_natCast]
      rfl
    rw [e] at h
    exact h
  go_enter Tryd.func21, Tryd.ntmps21
  go_wp2_with fail
  go_loopw [3, 5] (fun v i wr => ∃ (k : Nat) (p : Option Addr) (n c : Nat), k ≤ 64 ∧ i = .int .i64 k ∧ v = .slice p n c ∧ Hid (n = cnt (bt x) k) ∧ Ow .i64 3 wr w.heap.size p n c (allL (bt x) k) ∧ Below w.heap.size w wr) (fun _ i _ => 64 - (intOf i).toNat)
  case atStart => exact ⟨0, none, 0, 0, by omega, rfl, rfl, rfl, Ow.empty _ _ _ _ _, Below.refl _ _⟩
  case round =>
    obtain ⟨k, p, n, c, hk, rfl, rfl, hn, ho, hb⟩ := hrel
    have hBr := hb.size
    have hn64 : n ≤ 64 := by rw [hn.out]; exact Nat.le_trans (cnt_le _ _) hk
    by_cases h64 : k < 64
    · have c1 := cH k wr h64
      cases hp : bt x k with
      | true =>
        have hN : Hid (n + 1 = cnt (bt x) (k + 1)) := by show _ = _; rw [cnt_step hp, hn.out]
        have hS : Hid (allL (bt x) (k + 1) = allL (bt x) k ++ [(k : Int)]) := allL_step hp
        rw [hp] at c1
        clear hp cH hx
        generalize allL (bt x) k = xs at ho hS
        go_wp2_with fail
        refine c1.mono ?_
        rintro e w1 ⟨rfl, hw⟩
        subst hw
        go_wp2_with (at_builtin; refine wpList_app _ rfl _ _ 22 rfl .i64 3 i0 (.int .i64 0) 8 Tryd.underlying22 hi hz0 hz1 hz2 rfl w.heap.size _ _ _ xs rfl (ho.below (below_alloc _ _)) _ _ _ _ rfl (Rd.one _ _ _ _) ?c1 ?c2 ?c3 ?_)
        case c1 => omega
        case c2 => unfold maxLen; omega
        case c3 => simp; omega
        intro p2 c2 w2 ho2 hb2
        have hb3 : Below w.heap.size w w2 := (hb.trans ((below_alloc _ _).mono hBr)).trans hb2
        clear hb hb2 ho
        go_wp2
        go_roundw
        case rel => exact ⟨k + 1, p2, n + 1, c2, by omega, by go_num, rfl, hN, by rw [hS.out]; exact ho2, hb3⟩
        case measure => simp [intOf]; omega
      | false =>
        have hN : Hid (n = cnt (bt x) (k + 1)) := by show _ = _; rw [cnt_skip hp, hn.out]
        have hS : Hid (allL (bt x) (k + 1) = allL (bt x) k) := allL_skip hp
        rw [hp] at c1
        clear hp cH hx
        generalize allL (bt x) k = xs at ho hS
        go_wp2_with fail
        refine c1.mono ?_
        rintro e w1 ⟨rfl, hw⟩
        subst hw
        go_wp2_with fail
        go_roundw
        case rel => exact ⟨k + 1, p, n, c, by omega, by go_num, rfl, hN, by rw [hS.out]; exact ho, hb⟩
        case measure => simp [intOf]; omega
    · obtain rfl : k = 64 := by omega
      have R : ∃ p' c', Ending.returned (.slice p n c) = .returned (.slice p' (pop x) c') ∧ Rd .i64 wr p' (pop x) c' (allL (bt x) 64) ∧ Below w.heap.size w wr := by
        have e : pop x = n := hn.out.symm
        rw [e]
        exact ⟨p, c, rfl, ho.rd, hb⟩
      clear cH hx ho hn hb
      go_wp2
      go_ret
      exact R

set_option maxRecDepth 20000 in
set_option maxHeartbeats 400000 in
theorem rall_any (x : Nat) (w : World) :
    Calls Tryd.prog 16 #[.agg (bools (bitL x))] w fun e w' => ∃ p c, e = .returned (.slice p (pop x) c) ∧ Rd .i64 w' p (pop x) c (allL (bt x) 64) ∧ Below w.heap.size w w' := by
  obtain ⟨i0, hinf, hz0, hz1, hz2⟩ := info_parts infoI
  have hA : Arr (w.alloc (.cells (bools (bitL x)) 25)) w.heap.size (bitL x) := heap_alloc_new _ _
  have hi := info_set (bitL x) (bitL_len x)
  have hix : ∀ (k : Nat) W, k < 64 → (Instr.index 25 (.agg (bools (bitL x))) (.int .i64 k)).run Tryd.prog W = .ok (.bool (bt x k)) W := by
    intro k W hk
    rw [run_index_row (bitL x) k W (bitL_len x) hk, bitL_get x hk]
    rfl
  have hb0 : Below w.heap.size w (w.alloc (.cells (bools (bitL x)) 25)) := below_alloc _ _
  generalize hbs : bitL x = bs at hA hi hix hb0 ⊢
  clear hbs
  go_enter Tryd.func16, Tryd.ntmps16
  go_wp2_with (refine wpList_load_row rfl 25 _ rfl w.heap.size rfl _ _ _ _ hA Tryd.underlying25 rfl hi ?_)
  clear hA hi
  go_loopw [3, 7] (fun v i wr => ∃ (k : Nat) (p : Option Addr) (n c : Nat), k ≤ 64 ∧ i = .int .i64 k ∧ v = .slice p n c ∧ Hid (n = cnt (bt x) k) ∧ Ow .i64 3 wr w.heap.size p n c (allL (bt x) k) ∧ Below w.heap.size w wr) (fun _ i _ => 64 - (intOf i).toNat)
  case atStart => exact ⟨0, none, 0, 0, by omega, rfl, rfl, rfl, Ow.empty _ _ _ _ _, hb0⟩
  case round =>
    obtain ⟨k, p, n, c, hk, rfl, rfl, hn, ho, hb⟩ := hrel
    have hBr := hb.size
    have hn64 : n ≤ 64 := by rw [hn.out]; exact Nat.le_trans (cnt_le _ _) hk
    clear hb0
    by_cases h64 : k < 64
    · have c1 := fun W => hix k W h64
      cases hp : bt x k with
      | true =>
        have hN : Hid (n + 1 = cnt (bt x) (k + 1)) := by show _ = _; rw [cnt_step hp, hn.out]
        have hS : Hid (allL (bt x) (k + 1) = allL (bt x) k ++ [(k : Int)]) := allL_step hp
        rw [hp] at c1
        clear hp hix
        generalize allL (bt x) k = xs at ho hS
        go_wp2_with (at_builtin; refine wpList_app _ rfl _ _ 22 rfl .i64 3 i0 (.int .i64 0) 8 Tryd.underlying22 hinf hz0 hz1 hz2 rfl w.heap.size _ _ _ xs rfl (ho.below (below_alloc _ _)) _ _ _ _ rfl (Rd.one _ _ _ _) ?c1 ?c2 ?c3 ?_)
        case c1 => omega
        case c2 => unfold maxLen; omega
        case c3 => simp; omega
        intro p2 c2 w2 ho2 hb2
        have hb3 : Below w.heap.size w w2 := (hb.trans ((below_alloc _ _).mono hBr)).trans hb2
        clear hb hb2 ho
        go_wp2
        go_roundw
        case rel => exact ⟨k + 1, p2, n + 1, c2, by omega, by go_num, rfl, hN, by rw [hS.out]; exact ho2, hb3⟩
        case measure => simp [intOf]; omega
      | false =>
        have hN : Hid (n = cnt (bt x) (k + 1)) := by show _ = _; rw [cnt_skip hp, hn.out]
        have hS : Hid (allL (bt x) (k + 1) = allL (bt x) k) := allL_skip hp
        rw [hp] at c1
        clear hp hix
        generalize allL (bt x) k = xs at ho hS
        go_wp2_with fail
        go_roundw
        case rel => exact ⟨k + 1, p, n, c, by omega, by go_num, rfl, hN, by rw [hS.out]; exact ho, hb⟩
        case measure => simp [intOf]; omega
    · obtain rfl : k = 64 := by omega
      have R : ∃ p' c', Ending.returned (.slice p n c) = .returned (.slice p' (pop x) c') ∧ Rd .i64 wr p' (pop x) c' (allL (bt x) 64) ∧ Below w.heap.size w wr := by
        have e : pop x = n := hn.out.symm
        rw [e]
        exact ⟨p, c, rfl, ho.rd, hb⟩
      clear hix ho hn hb
      go_wp2
      go_ret
      exact R

set_option maxRecDepth 20000 in
theorem eqInts_any (p q : Option Addr) (n c d : Nat) (xs : List Int) (w : World) (hx : Rd .i64 w p n c xs) (hy : Rd .i64 w q n d xs) (hn : n ≤ 1099511627776) : Calls Tryd.prog 20 #[.slice p n c, .slice q n d] w fun e w' => e = .returned (.bool true) ∧ Below w.heap.size w w' := by
  go_enter Tryd.func20, Tryd.ntmps20
  go_wp2_with fail
  go_loopw [13] (fun i wr => ∃ k : Nat, k ≤ n ∧ i = .int .i64 k ∧ Below w.heap.size w wr) (fun i _ => n - (intOf i).toNat)
  case atStart => exact ⟨0, Nat.zero_le _, rfl, Below.refl _ _⟩
  case round =>
    obtain ⟨k, hk, rfl, hb⟩ := hrel
    by_cases h : k < n
    · obtain ⟨b, o, rfl, hc⟩ := (hx.below hb).cells (by omega)
      obtain ⟨b2, o2, rfl, hc2⟩ := (hy.below hb).cells (by omega)
      have h1 := hc k h
      have h2 := hc2 k h
      have hkn : (k : Int) < (n : Int) := by omega
      generalize xs.getD k 0 = z at h1 h2
      clear hc hc2 hx hy
      go_wp2_with fail
      go_quiet (fail)
      go_wp2_with fail
      go_roundw
      case rel => exact ⟨k + 1, by omega, by go_num, below_drewN hb nq⟩
      case measure => simp [intOf]; omega
    · obtain rfl : k = n := by omega
      clear hx hy
      go_wp2
      go_ret
      exact ⟨rfl, hb⟩

end Go.Proofs.YtbbcondoenmapacDoor.M
