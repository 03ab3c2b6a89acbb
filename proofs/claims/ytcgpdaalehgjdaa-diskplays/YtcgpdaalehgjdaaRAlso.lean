/-
  Own text: contracts of the reference's Read and of the law's also.
-/
import Derived.Test.YtcgpdaalehgjdaaRApp
namespace Go.Proofs.Ytcgpdaalehgjdaa.M
open Go.ChangeShapes Go.WideShapes Go.ChangeAt Go.RowKit

theorem equal_strs (p q : Option Addr) (n c m d : Nat) (xs ys : List Int) (w : World) (hx : Rd .u8 w p n c xs) (hy : Rd .u8 w q m d ys) (he : strOfNums xs = strOfNums ys) :
    Calls Try.prog 21 #[.slice p n c, .slice q m d] w fun e w' => e = .returned (.bool true) ∧ w' = w := by
  refine (equal_some p q n c m d xs ys w hx hy).mono ?_
  rintro e w' ⟨rfl, rfl⟩
  exact ⟨by rw [he]; simp, rfl⟩

theorem below_bytes (w : World) (e : TypeId) (s : ByteArray) : Below w.heap.size w (Lib.bytesWorld w e s) :=
  ⟨rfl, rfl, rfl, by rw [Lib.bytesWorld_size]; omega, fun j hj => Lib.bytesWorld_at_old w e s j hj⟩

/-- The numbers of a text's bytes. -/
def backL (xs : List Int) : List Int := xs.map fun x => ((UInt8.ofNat x.toNat).toNat : Int)

theorem backL_str (xs : List Int) : strOfNums (backL xs) = strOfNums xs := by
  unfold strOfNums backL
  rw [List.map_map]
  have e : xs.map ((fun n : Int => UInt8.ofNat n.toNat) ∘ fun x : Int => ((UInt8.ofNat x.toNat).toNat : Int)) = xs.map fun n => UInt8.ofNat n.toNat := List.map_congr_left fun x _ => by
    show UInt8.ofNat (((UInt8.ofNat x.toNat).toNat : Int)).toNat = _
    rw [Int.toNat_natCast, UInt8.ofNat_toNat]
  rw [e]

set_option maxRecDepth 20000 in
theorem rRead_ok (w : World) (g : Nat) (m : PD) (k : Sl) (h : RD w g m k) (hw : m.down = false) (i : Nat) (hi : i < 8) :
    Calls Try.prog 20 #[.pointer (some ⟨g, 0, none⟩), .int .i64 i] w fun e w' => ∃ p' c', e = .returned (.tuple #[.slice p' (m.f i).told.length c', .int .i64 0]) ∧ Rd .u8 w' p' (m.f i).told.length c' (backL (m.f i).told) ∧ Below w.heap.size w w' ∧ (∀ x, p' = some x → w.heap.size ≤ x.block) := by
  have hM := rmay_any w g m k h.rc i
  rw [hw, if_neg (show ¬ (false = true) by decide), if_neg (by omega)] at hM
  have c0 := h.rc.told hi
  clear h
  generalize (m.f i).told = xs at *
  have hcv := Lib.run_convert_string_bytes (P := Try.prog) w 9 32 5 (strOfNums xs) Try.underlying9 Try.underlying32 Try.underlying5
  rw [strOfNums_size] at hcv
  have hbb := below_bytes w 5 (strOfNums xs)
  have hrd : ∀ c', xs.length ≤ c' → Rd .u8 (Lib.bytesWorld w 5 (strOfNums xs)) (some ⟨w.heap.size, 0, none⟩) xs.length c' (backL xs) := fun c' hc' =>
    ⟨by unfold backL; simp, hc', (fun e => by cases e), fun _ => ⟨w.heap.size, 0, rfl, fun j hj => by
      rw [Nat.zero_add, Lib.bytesWorld_cell w _ _ j (by rw [strOfNums_size]; exact hj)]
      rw [strOfNums_data]
      unfold backL
      rw [List.getD_eq_getElem?_getD, List.getD_eq_getElem?_getD, List.getElem?_map, List.getElem?_map, List.getElem?_eq_getElem hj]
      rfl⟩⟩
  have hcap : xs.length ≤ grownCap w xs.length 0 5 := grownCap_ge _ _ _ _
  generalize grownCap w xs.length 0 5 = gc at *
  generalize hWB : Lib.bytesWorld w 5 (strOfNums xs) = wb at *
  go_enter Try.func20, Try.ntmps20
  go_wp2_with fail
  refine hM.mono ?_
  rintro e w1 ⟨rfl, rfl⟩
  go_wp2_with fail
  go_ret2
  exact ⟨_, gc, rfl, hrd gc hcap, hbb, fun x e => by cases e; exact Nat.le_refl _⟩

set_option maxRecDepth 20000 in
set_option maxHeartbeats 1000000 in
theorem also_any (w : World) (g : Nat) (m : PD) (k : Sl) (s : Nat) (h : RD w g m k) (hm : m.ok s) (hs : s ≤ 1099511627) (hp : m.pre)
    (op i n : Int) (bq : Option Addr) (bl bc : Nat) (kq : Option Addr) (kl kc : Nat) (b keep : List Int) (hb : Rd .u8 w bq bl bc b) (hk : Rd .i64 w kq kl kc keep) (hbg : ∀ x, bq = some x → 0 < bl → x.block ≠ g) (hkg : ∀ x, kq = some x → 0 < kl → x.block ≠ g) (hbl : bl ≤ 16384) (hkl : kl ≤ 16384) :
    Calls Try.prog 16 #[.pointer (some ⟨g, 0, none⟩), .agg #[.int .i64 op, .int .i64 i, .int .i64 n, .slice bq bl bc, .slice kq kl kc]] w fun e w' => e = .returned (.int .i64 (m.step ⟨op, i, n, b, keep⟩).2) ∧ RAfter g k w w' (m.step ⟨op, i, n, b, keep⟩).1 := by
  have hb1 : Below w.heap.size w (w.alloc (.cells #[.int .i64 op, .int .i64 i, .int .i64 n, .slice bq bl bc, .slice kq kl kc] 35)) := (Below.refl _ _).alloc (Nat.le_refl _) _
  have h1 := h.below hb1
  have hy := hb.below' hb1
  have hz := hk.below' hb1
  have hlb := hb.len
  have hX : ∀ R : PD × Int, m.step ⟨op, i, n, b, keep⟩ = R → (Calls Try.prog 16 #[.pointer (some ⟨g, 0, none⟩), .agg #[.int .i64 op, .int .i64 i, .int .i64 n, .slice bq bl bc, .slice kq kl kc]] w fun e w' => e = .returned (.int .i64 R.2) ∧ RAfter g k w w' R.1) → (Calls Try.prog 16 #[.pointer (some ⟨g, 0, none⟩), .agg #[.int .i64 op, .int .i64 i, .int .i64 n, .slice bq bl bc, .slice kq kl kc]] w fun e w' => e = .returned (.int .i64 (m.step ⟨op, i, n, b, keep⟩).2) ∧ RAfter g k w w' (m.step ⟨op, i, n, b, keep⟩).1) := by
    rintro R rfl h
    exact h
  cases q7 : (wrap64 ((IntKind.u64.wrap op).tmod 9) == 7) with
  | true =>
    have q4 : (wrap64 ((IntKind.u64.wrap op).tmod 9) == 4) = false := beq_other q7 rfl
    have q5 : (wrap64 ((IntKind.u64.wrap op).tmod 9) == 5) = false := beq_other q7 rfl
    have q6 : (wrap64 ((IntKind.u64.wrap op).tmod 9) == 6) = false := beq_other q7 rfl
    refine hX ({ m with down := false }, 0) (if_pos q7) ?_
    have c25 := h1.rc.down
    have f25 := h1.rc.free 25
    have hA := (RAfter.mend h1 (Ch.setCell _ ⟨g, 25, none⟩ (.bool false)) (h1.rc.setDown false) rfl).before hb1
    clear hX h h1 hy hz hb hk
    generalize m.down = md at *
    go_enter Try.func16, Try.ntmps16
    go_wp2_with fail
    go_ret
    exact ⟨rfl, hA⟩
  | false =>
    have n7 : ¬ (wrap64 ((IntKind.u64.wrap op).tmod 9) == 7) = true := by rw [q7]; decide
    cases hd : m.down with
    | true =>
      refine hX (m, 50) ((if_neg n7).trans (if_pos hd)) ?_
      have hMb := rmay_any _ g m k h1.rc i
      rw [hd, if_pos rfl] at hMb
      have cS := rSync_bad _ g i _ (show ((50 : Int) != 0) = true from rfl) hMb
      have cC := rClear_bad _ g i _ (show ((50 : Int) != 0) = true from rfl) hMb
      have cA := rAppend_bad _ g i _ (show ((50 : Int) != 0) = true from rfl) bq bl bc hMb
      have cK := rCrash_down _ g m k h1 hd kq kl kc
      have cR := rArm_down _ g m k h1 hd n kq kl kc
      clear hX h1 hy hz hb hk hMb
      cases q4 : (wrap64 ((IntKind.u64.wrap op).tmod 9) == 4) with
      | true =>
        clear cS cA cK cR
        go_enter Try.func16, Try.ntmps16
        go_wp2_with fail
        refine cC.mono ?_
        rintro e w2 ⟨rfl, rfl⟩
        have hA := RAfter.same h hb1
        clear h
        go_wp2_with fail
        go_ret
        exact ⟨rfl, hA⟩
      | false =>
        cases q5 : (wrap64 ((IntKind.u64.wrap op).tmod 9) == 5) with
        | true =>
          clear cC cA cK cR
          go_enter Try.func16, Try.ntmps16
          go_wp2_with fail
          refine cS.mono ?_
          rintro e w2 ⟨rfl, rfl⟩
          have hA := RAfter.same h hb1
          clear h
          go_wp2_with fail
          go_ret
          exact ⟨rfl, hA⟩
        | false =>
          cases q6 : (wrap64 ((IntKind.u64.wrap op).tmod 9) == 6) with
          | true =>
            clear cC cA cS cR
            go_enter Try.func16, Try.ntmps16
            go_wp2_with fail
            refine cK.mono ?_
            rintro e w2 ⟨rfl, rfl⟩
            have hA := RAfter.same h hb1
            clear h
            go_wp2_with fail
            go_ret
            exact ⟨rfl, hA⟩
          | false =>
            cases q8 : (wrap64 ((IntKind.u64.wrap op).tmod 9) == 8) with
            | true =>
              clear cC cA cS cK
              go_enter Try.func16, Try.ntmps16
              go_wp2_with fail
              refine cR.mono ?_
              rintro e w2 ⟨rfl, rfl⟩
              have hA := RAfter.same h hb1
              clear h
              go_wp2_with fail
              go_ret
              exact ⟨rfl, hA⟩
            | false =>
              clear cC cR cS cK
              go_enter Try.func16, Try.ntmps16
              go_wp2_with fail
              refine cA.mono ?_
              rintro e w2 ⟨rfl, rfl⟩
              have hA := RAfter.same h hb1
              clear h
              go_wp2_with fail
              go_ret
              exact ⟨rfl, hA⟩
    | false =>
      have nd : ¬ m.down = true := by rw [hd]; decide
      cases q6 : (wrap64 ((IntKind.u64.wrap op).tmod 9) == 6) with
      | true =>
        have q4 : (wrap64 ((IntKind.u64.wrap op).tmod 9) == 4) = false := beq_other q6 rfl
        have q5 : (wrap64 ((IntKind.u64.wrap op).tmod 9) == 5) = false := beq_other q6 rfl
        refine hX (m.fall keep, 0) ((if_neg n7).trans ((if_neg nd).trans (if_pos q6))) ?_
        have hC := rCrash_ok _ g m k h1 s hm (by omega) hp hd kq kl kc keep hz (by omega) hkg
        clear hX h h1 hy hz hb hk
        go_enter Try.func16, Try.ntmps16
        go_wp2_with fail
        refine hC.mono ?_
        rintro e w2 ⟨rfl, hA⟩
        have hA2 := hA.before hb1
        clear hA
        go_wp2_with fail
        go_ret
        exact ⟨rfl, hA2⟩
      | false =>
        have n6 : ¬ (wrap64 ((IntKind.u64.wrap op).tmod 9) == 6) = true := by rw [q6]; decide
        cases q8 : (wrap64 ((IntKind.u64.wrap op).tmod 9) == 8) with
        | true =>
          have q4 : (wrap64 ((IntKind.u64.wrap op).tmod 9) == 4) = false := beq_other q8 rfl
          have q5 : (wrap64 ((IntKind.u64.wrap op).tmod 9) == 5) = false := beq_other q8 rfl
          by_cases hn : n < 1
          · refine hX (m, 1) ((if_neg n7).trans ((if_neg nd).trans ((if_neg n6).trans ((if_pos q8).trans (if_pos hn))))) ?_
            have hC := rArm_low _ g m k h1 hd n hn kq kl kc
            clear hX h1 hy hz hb hk
            go_enter Try.func16, Try.ntmps16
            go_wp2_with fail
            refine hC.mono ?_
            rintro e w2 ⟨rfl, rfl⟩
            have hA := RAfter.same h hb1
            clear h
            go_wp2_with fail
            go_ret
            exact ⟨rfl, hA⟩
          · refine hX ({ m with left := n.toNat, keep := keep }, 0) ((if_neg n7).trans ((if_neg nd).trans ((if_neg n6).trans ((if_pos q8).trans (if_neg hn))))) ?_
            obtain ⟨N, rfl⟩ := Int.eq_ofNat_of_zero_le (show 0 ≤ n by omega)
            have hC := rArm_ok _ g m k h1 hd N (by omega) kq kl kc keep hz (by omega) hkg
            clear hX h h1 hy hz hb hk
            go_enter Try.func16, Try.ntmps16
            go_wp2_with fail
            refine hC.mono ?_
            rintro e w2 ⟨rfl, hA⟩
            have hA2 := hA.before hb1
            clear hA
            go_wp2_with fail
            go_ret
            exact ⟨rfl, hA2⟩
        | false =>
          have n8 : ¬ (wrap64 ((IntKind.u64.wrap op).tmod 9) == 8) = true := by rw [q8]; decide
          by_cases hi : i < 0 ∨ 8 ≤ i
          · refine hX (m, 51) ((if_neg n7).trans ((if_neg nd).trans ((if_neg n6).trans ((if_neg n8).trans (if_pos hi))))) ?_
            have hMb := rmay_any _ g m k h1.rc i
            rw [hd, if_neg (show ¬ (false = true) by decide), if_pos hi] at hMb
            have cS := rSync_bad _ g i _ (show ((51 : Int) != 0) = true from rfl) hMb
            have cC := rClear_bad _ g i _ (show ((51 : Int) != 0) = true from rfl) hMb
            have cA := rAppend_bad _ g i _ (show ((51 : Int) != 0) = true from rfl) bq bl bc hMb
            clear hX h1 hy hz hb hk hMb hi
            cases q4 : (wrap64 ((IntKind.u64.wrap op).tmod 9) == 4) with
            | true =>
              clear cS cA
              go_enter Try.func16, Try.ntmps16
              go_wp2_with fail
              refine cC.mono ?_
              rintro e w2 ⟨rfl, rfl⟩
              have hA := RAfter.same h hb1
              clear h
              go_wp2_with fail
              go_ret
              exact ⟨rfl, hA⟩
            | false =>
              cases q5 : (wrap64 ((IntKind.u64.wrap op).tmod 9) == 5) with
              | true =>
                clear cC cA
                go_enter Try.func16, Try.ntmps16
                go_wp2_with fail
                refine cS.mono ?_
                rintro e w2 ⟨rfl, rfl⟩
                have hA := RAfter.same h hb1
                clear h
                go_wp2_with fail
                go_ret
                exact ⟨rfl, hA⟩
              | false =>
                clear cC cS
                go_enter Try.func16, Try.ntmps16
                go_wp2_with fail
                refine cA.mono ?_
                rintro e w2 ⟨rfl, rfl⟩
                have hA := RAfter.same h hb1
                clear h
                go_wp2_with fail
                go_ret
                exact ⟨rfl, hA⟩
          · obtain ⟨I, rfl⟩ := Int.eq_ofNat_of_zero_le (show 0 ≤ i by omega)
            have hI : I < 8 := by omega
            have base := fun (R : PD × Int) (hR : (if (wrap64 ((IntKind.u64.wrap op).tmod 9) == 4) = true then (m.clearAt I, goneE (m.gone 1)) else if (wrap64 ((IntKind.u64.wrap op).tmod 9) == 5) = true then (m.syncAt I, goneE (m.gone 1)) else if m.room < m.used + b.length then (m, 7) else (m.putAt I b, goneE (m.gone b.length))) = R) => hX R ((if_neg n7).trans ((if_neg nd).trans ((if_neg n6).trans ((if_neg n8).trans ((if_neg hi).trans hR)))))
            clear hX
            cases q4 : (wrap64 ((IntKind.u64.wrap op).tmod 9) == 4) with
            | true =>
              refine base _ (if_pos q4) ?_
              have hC := rClear_ok _ g m k h1 s hm (by omega) hp hd I hI
              clear base h h1 hy hz hb hk hi
              go_enter Try.func16, Try.ntmps16
              go_wp2_with fail
              refine hC.mono ?_
              rintro e w2 ⟨rfl, hA⟩
              have hA2 := hA.before hb1
              clear hA
              go_wp2_with fail
              go_ret
              exact ⟨rfl, hA2⟩
            | false =>
              have n4 : ¬ (wrap64 ((IntKind.u64.wrap op).tmod 9) == 4) = true := by rw [q4]; decide
              cases q5 : (wrap64 ((IntKind.u64.wrap op).tmod 9) == 5) with
              | true =>
                refine base _ ((if_neg n4).trans (if_pos q5)) ?_
                have hC := rSync_ok _ g m k h1 s hm (by omega) hp hd I hI
                clear base h h1 hy hz hb hk hi
                go_enter Try.func16, Try.ntmps16
                go_wp2_with fail
                refine hC.mono ?_
                rintro e w2 ⟨rfl, hA⟩
                have hA2 := hA.before hb1
                clear hA
                go_wp2_with fail
                go_ret
                exact ⟨rfl, hA2⟩
              | false =>
                have n5 : ¬ (wrap64 ((IntKind.u64.wrap op).tmod 9) == 5) = true := by rw [q5]; decide
                by_cases hu : m.room < m.used + b.length
                · refine base _ ((if_neg n4).trans ((if_neg n5).trans (if_pos hu))) ?_
                  have hC := rAppend_full _ g m k h1 s hm (by omega) hd I hI bq bl bc (by omega) (by rw [← hlb]; exact hu)
                  clear base h1 hy hz hb hk hi
                  go_enter Try.func16, Try.ntmps16
                  go_wp2_with fail
                  refine hC.mono ?_
                  rintro e w2 ⟨rfl, hb2⟩
                  have hA := RAfter.same h (hb1.trans (hb2.mono hb1.size))
                  clear h
                  go_wp2_with fail
                  go_ret
                  exact ⟨rfl, hA⟩
                · refine base _ ((if_neg n4).trans ((if_neg n5).trans (if_neg hu))) ?_
                  have hC := rAppend_ok _ g m k h1 s hm hs hp hd I hI bq bl bc b hy hbg (by omega) (by rw [← hlb]; exact hu)
                  have HG : Hid (b.length = bl) := hlb
                  clear base h h1 hy hz hb hk hi hlb
                  go_enter Try.func16, Try.ntmps16
                  go_wp2_with fail
                  refine hC.mono ?_
                  rintro e w2 ⟨rfl, hA⟩
                  have hA2 := hA.before hb1
                  clear hA
                  go_wp2_with fail
                  go_ret
                  exact ⟨by rw [HG.out]; rfl, hA2⟩

end Go.Proofs.Ytcgpdaalehgjdaa.M
