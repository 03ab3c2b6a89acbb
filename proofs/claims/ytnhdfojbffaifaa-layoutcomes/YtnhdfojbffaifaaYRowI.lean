/-
  Own text: contracts of layout's row, and of slices.Equal over two rows of the same nodes.
-/
import Derived.Test.YtnhdfojbffaifaaYGood
namespace Go.Proofs.Ytnhdfojbffaifaa.M
open Go.ChangeShapes Go.WideShapes Go.ChangeAt Go.RowKit

/-- The nodes of a chain that are in a set, in their order. -/
def rowL (X : Nat) (ms : List Mb) : List Int := (ms.filter fun m => hasN X m.n).map (·.n)

theorem rowL_snoc (X : Nat) (ms : List Mb) (k : Nat) (h : k < ms.length) : rowL X (ms.take (k + 1)) = rowL X (ms.take k) ++ (if hasN X (ms.getD k .z0).n = true then [(ms.getD k .z0).n] else []) := by
  unfold rowL
  rw [take_snoc_mb h, List.filter_append, List.map_append]
  congr 1
  cases hh : hasN X (ms.getD k .z0).n with
  | true => rw [List.filter_cons_of_pos (by simpa using hh)]; rfl
  | false => rw [List.filter_cons_of_neg (by rw [hh]; decide)]; rfl

theorem rowL_len (X : Nat) (ms : List Mb) : (rowL X ms).length ≤ ms.length := by
  unfold rowL
  rw [List.length_map]
  exact List.length_filter_le _ _

theorem infoI : (Try.prog.info? 3).map (fun i => (i.zero, i.size, i.bytes)) = some (some (.int .i64 0), 1, 8) := by kernel_rfl

theorem Rd.one (k : IntKind) (w : World) (e : TypeId) (x : Int) : Rd k (w.alloc (.cells #[.int k x] e)) (some ⟨w.heap.size, 0, none⟩) 1 1 [x] := by
  refine ⟨rfl, Nat.le_refl _, (fun h => by cases h), fun _ => ⟨w.heap.size, 0, rfl, fun i hi => ?_⟩⟩
  obtain rfl : i = 0 := by omega
  simp

set_option maxRecDepth 20000 in
set_option maxHeartbeats 2000000 in
theorem row_any (e : Int) (p : Option Addr) (n c : Nat) (ms : List Mb) (X : Nat) (w : World) (hr : RdM w p n c ms) (hn : n ≤ 1099511627776) (hX : X < 18446744073709551616) :
    Calls Try.prog 59 #[.agg #[.int .i64 e, .slice p n c], .int .u64 X] w fun r w' => ∃ q d, r = .returned (.slice q (rowL X ms).length d) ∧ Rd .i64 w' q (rowL X ms).length d (rowL X ms) ∧ Below w.heap.size w w' := by
  have hb0 : Below w.heap.size w (w.alloc (.cells #[.int .i64 e, .slice p n c] 24)) := (Below.refl _ _).alloc (Nat.le_refl _) _
  have a1 : (w.alloc (.cells #[.int .i64 e, .slice p n c] 24)).cell? ⟨w.heap.size, 1, none⟩ = some (.slice p n c) := by simp
  have hl := hr.len
  have hr0 := hr.below hb0
  have hH := fun n W => has_any X n W hX
  obtain ⟨i0, hi0, hz0, hz1, hz2⟩ := info_parts infoI
  clear hr
  generalize hw : w.heap.size = b at *
  go_enter Try.func59, Try.ntmps59
  go_wp2_with fail
  generalize (w.alloc (.cells #[.int .i64 e, .slice p n c] 24)) = w0 at *
  go_loopw [5, 11] (fun v i wr => ∃ (k : Nat) (q : Option Addr) (l d : Nat), k ≤ n ∧ i = .int .i64 k ∧ v = .slice q l d ∧ Hid (l = (rowL X (ms.take k)).length) ∧ Ow .i64 3 wr w0.heap.size q l d (rowL X (ms.take k)) ∧ Below w0.heap.size w0 wr) (fun _ i _ => n - (intOf i).toNat)
  case atStart => exact ⟨0, none, 0, 0, Nat.zero_le _, rfl, rfl, rfl, Ow.empty _ _ _ _ _, Below.refl _ _⟩
  case round =>
    obtain ⟨k, q, l, d, hk, rfl, rfl, HL, ho, hb⟩ := hrel
    by_cases h : k < n
    · obtain ⟨g1, o1, rfl, c1⟩ := (hr0.below hb).cells (by omega)
      obtain ⟨x1, x2, x3⟩ := c1 k h
      have hk1 : (k : Int) < (n : Int) := by omega
      have HS : Hid (rowL X (ms.take (k + 1)) = rowL X (ms.take k) ++ (if hasN X (ms.getD k .z0).n = true then [(ms.getD k .z0).n] else [])) := rowL_snoc X ms k (by omega)
      have hll : l ≤ n := by rw [HL.out]; exact Nat.le_trans (rowL_len _ _) (by rw [List.length_take]; omega)
      clear c1
      generalize ms.getD k .z0 = f at *
      obtain ⟨fn, fs, ff⟩ := f
      dsimp only at x1 x2 x3 HS
      generalize rowL X (ms.take k) = xs at *
      have hba : Below wr.heap.size wr (wr.alloc (.cells #[.int .i64 fn, .int .i64 fs, .bool ff] 42)) := (Below.refl _ _).alloc (Nat.le_refl _) _
      have hoa := ho.below hba
      have hbb := hb.trans (hba.mono hb.size)
      have hc := hH fn (wr.alloc (.cells #[.int .i64 fn, .int .i64 fs, .bool ff] 42))
      cases hq : hasN X fn with
      | false =>
        rw [hq] at hc
        have HT : Hid (rowL X (ms.take (k + 1)) = xs) := by unfold Hid; rw [HS.out, hq]; simp
        clear HS hH
        go_wp2_with fail
        refine hc.mono ?_
        rintro r w1 ⟨rfl, hw1⟩
        rw [hw1]
        go_wp2_with fail
        go_roundw
        case rel => exact ⟨k + 1, q, l, d, by omega, by go_num, rfl, by unfold Hid; rw [HT.out]; exact HL.out, by rw [HT.out]; exact hoa, hbb⟩
        case measure => simp [intOf]; omega
      | true =>
        rw [hq] at hc
        have HT : Hid (rowL X (ms.take (k + 1)) = xs ++ [fn]) := by unfold Hid; rw [HS.out, hq]; rfl
        have hb2 : Below (wr.alloc (.cells #[.int .i64 fn, .int .i64 fs, .bool ff] 42)).heap.size (wr.alloc (.cells #[.int .i64 fn, .int .i64 fs, .bool ff] 42)) ((wr.alloc (.cells #[.int .i64 fn, .int .i64 fs, .bool ff] 42)).alloc (.cells #[.int .i64 fn] 3)) := (Below.refl _ _).alloc (Nat.le_refl _) _
        have hob := hoa.below hb2
        have hbc := hbb.trans (hb2.mono hbb.size)
        have hone := Rd.one .i64 (wr.alloc (.cells #[.int .i64 fn, .int .i64 fs, .bool ff] 42)) 3 fn
        have hsa : (wr.alloc (.cells #[.int .i64 fn, .int .i64 fs, .bool ff] 42)).heap.size = wr.heap.size + 1 := by simp
        rw [hsa] at hone
        clear HS hH hsa
        go_wp2_with fail
        refine hc.mono ?_
        rintro r w1 ⟨rfl, hw1⟩
        rw [hw1]
        go_wp2_with (at_builtin; refine wpList_app _ rfl (.tmp 19) (.tmp 22) 68 rfl .i64 3 i0 (.int .i64 0) 8 Try.underlying68 hi0 hz0 hz1 hz2 rfl w0.heap.size q l d xs rfl hob (some ⟨wr.heap.size + 1, 0, none⟩) 1 1 [fn] rfl hone (by omega) (by unfold maxLen; omega) hbc.size ?_)
        intro p2 c2 w2 ho2 hb3
        go_wp2_with fail
        go_roundw
        case rel => exact ⟨k + 1, p2, l + 1, c2, by omega, by go_num, rfl, by unfold Hid; rw [HT.out, List.length_append]; rw [← HL.out]; rfl, by rw [HT.out]; exact ho2, hbc.trans hb3⟩
        case measure => simp [intOf]; omega
    · obtain rfl : k = n := by omega
      have hki : ¬ (k : Int) < (k : Int) := by omega
      rw [List.take_of_length_le (by omega)] at ho HL
      have hl2 := HL.out
      subst hl2
      have hrd := ho.rd
      clear ho HL hH
      go_wp2_with fail
      go_ret
      exact ⟨q, d, rfl, hrd, hb0.trans (hb.mono (hw ▸ hb0.size))⟩

set_option maxRecDepth 20000 in
set_option maxHeartbeats 1000000 in
theorem equalI_same (p q : Option Addr) (n c d : Nat) (xs : List Int) (w : World) (hp : Rd .i64 w p n c xs) (hq : Rd .i64 w q n d xs) (hn : n ≤ 1099511627776) :
    Calls Try.prog 58 #[.slice p n c, .slice q n d] w fun e w' => e = .returned (.bool true) ∧ Below w.heap.size w w' := by
  go_enter Try.func58, Try.ntmps58
  go_wp2_with fail
  go_loopw [13] (fun i wr => ∃ k : Nat, k ≤ n ∧ i = .int .i64 k ∧ Below w.heap.size w wr) (fun i _ => n - (intOf i).toNat)
  case atStart => exact ⟨0, Nat.zero_le _, rfl, Below.refl _ _⟩
  case round =>
    obtain ⟨k, hk, rfl, hb⟩ := hrel
    by_cases h : k < n
    · obtain ⟨b1, o1, rfl, c1⟩ := (hp.below hb).cells (by omega)
      obtain ⟨b2, o2, rfl, c2⟩ := (hq.below hb).cells (by omega)
      have x1 := c1 k h
      have y1 := c2 k h
      have hk1 : (k : Int) < (n : Int) := by omega
      clear hp hq c1 c2
      generalize xs.getD k 0 = f at *
      go_wp2_with fail
      go_quiet (fail)
      go_wp2_with fail
      go_roundw
      case rel => exact ⟨k + 1, by omega, by go_num, below_drewN hb nq⟩
      case measure => simp [intOf]; omega
    · obtain rfl : k = n := by omega
      clear hp hq
      go_wp2_with fail
      go_ret
      exact ⟨rfl, hb⟩

end Go.Proofs.Ytnhdfojbffaifaa.M
