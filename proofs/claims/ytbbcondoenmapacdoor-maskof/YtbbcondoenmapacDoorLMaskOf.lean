/-
  Own text: the walk of the law MaskOf.
-/
import Derived.Test.YtbbcondoenmapacDoorKPut
import Derived.Test.YtbbcondoenmapacDoorOpen
import Derived.Test.YtbbcondoenmapacDoorKHeld
namespace Go.Proofs.YtbbcondoenmapacDoor.M
open Go.ChangeShapes Go.WideShapes Go.ChangeAt Go.RowKit

theorem bitL_zero : bitL 0 = List.replicate 64 false := by decide +kernel

set_option maxRecDepth 20000 in
set_option linter.unusedSimpArgs false in
set_option maxHeartbeats 4000000 in
theorem of_in (p : Option Addr) (n c : Nat) (ls : List Int) (v : Int) (w : World) (hT : Tab w) (hr : Rd .i64 w p n c ls) (hn : n ≤ 500) (hhas : hasN (ofN ls) v = ls.contains v) (hv1 : decide (0 ≤ v) = true) (hv2 : decide (v < 64) = true) :
    Calls Tryd.prog 3 #[.slice p n c, .int .i64 v] w fun e w' => e = .returned (.bool true) ∧ Below w.heap.size w w' := by
  have hd1 : decide ((500 : Int) < (n : Int)) = false := decide_eq_false (by omega)
  have hd2 : decide (500 < n) = false := decide_eq_false (by omega)
  have hl := hr.len
  have hz : ∀ x : Nat, (bools (List.replicate 64 false)).size = (bools (bitL x)).size := fun x => by rw [bools_size, bools_size, bitL_len]; rfl
  go_enter Tryd.func3, Tryd.ntmps3
  go_wp2_with fail
  go_loopw [15] (fun i wr => ∃ k : Nat, k ≤ n ∧ i = .int .i64 k ∧ Arr wr w.heap.size (bitL (ofN (ls.take k))) ∧ Below w.heap.size w wr) (fun i _ => n - (intOf i).toNat)
  case atStart => exact ⟨0, Nat.zero_le _, rfl, by rw [show ofN (ls.take 0) = 0 from rfl, bitL_zero]; exact heap_alloc_new _ _, below_alloc _ _⟩
  case round =>
    obtain ⟨k, hk, rfl, hA, hb⟩ := hrel
    by_cases h : k < n
    · obtain ⟨b, o, rfl, hc⟩ := (hr.below hb).cells (by omega)
      have h1 := hc k h
      have hS : Hid (ofN (ls.take (k + 1)) = ofN (ls.take k) ||| bitN (ls.getD k 0)) := ofN_snoc (by omega)
      have hi := info_set (bitL (ofN (ls.take k))) (bitL_len _)
      have hi2 := info_set (bitL (ofN (ls.take (k + 1)))) (bitL_len _)
      have cP := fun W => put_any (bitL (ofN (ls.take k))) (ls.getD k 0) true W (bitL_len _)
      rw [putB_true, ← hS.out] at cP
      have hsz : (bools (bitL (ofN (ls.take k)))).size = (bools (bitL (ofN (ls.take (k + 1))))).size := by rw [bools_size, bools_size, bitL_len, bitL_len]
      clear hc hr hS hz
      generalize ls.getD k 0 = z at h1 cP
      generalize hX2 : bitL (ofN (ls.take (k + 1))) = X2 at cP hsz hi2
      have HX2 : Hid (bitL (ofN (ls.take (k + 1))) = X2) := hX2
      generalize bitL (ofN (ls.take k)) = X1 at hA hi cP hsz
      clear hX2
      go_wp2_with (refine wpList_load_row rfl 25 _ rfl w.heap.size rfl _ _ _ _ hA Tryd.underlying25 rfl hi ?_)
      refine (cP _).mono ?_
      rintro e w2 ⟨rfl, hb2⟩
      have hA2 := hA.below hb2
      have hA3 := hA2.setRow X2
      have hb3 := (hb.trans (hb2.mono hb.size)).trans (below_setRow w2 w.heap.size (bools X2) (Nat.le_refl _))
      clear hA hb hb2 cP
      go_wp2_with (refine wpList_store_row rfl 25 _ _ rfl w.heap.size _ rfl rfl _ _ hA2 hi2 hsz (bools_one _) ?_)
      generalize w2.setRow w.heap.size (bools X2) = w3 at hA3 hb3 ⊢
      go_roundw
      case rel => exact ⟨k + 1, by omega, by go_num, by rw [HX2.out]; exact hA3, hb3⟩
      case measure => simp [intOf]; omega
    · obtain rfl : k = n := by omega
      have e1 : ls.take k = ls := List.take_of_length_le (by omega)
      rw [e1] at hA
      have hr2 := hr.below hb
      have cO := of_any p k c ls wr hr2 (by omega)
      have hXlt := ofN_lt ls
      have d10 : ∀ W, Keep w [(w.heap.size, (bitL (ofN ls)).map Value.bool)] W → Calls Tryd.prog 10 #[.agg ((bitL (ofN ls)).map Value.bool).toArray] W fun e w' => e = .returned (.int .u64 (ofN ls)) ∧ Keep w [(w.heap.size, (bitL (ofN ls)).map Value.bool)] w' := fun W hS => keep_below hS (by have h := word_any (bitL (ofN ls)) W (bitL_len _); rw [word_bits _ hXlt] at h; exact h)
      have d11 : ∀ W, Keep w [(w.heap.size, (bitL (ofN ls)).map Value.bool)] W → Calls Tryd.prog 11 #[.int .u64 (ofN ls), .int .i64 v] W fun e w' => e = .returned (.bool (ls.contains v)) ∧ Keep w [(w.heap.size, (bitL (ofN ls)).map Value.bool)] w' := fun W hS => keep_same hS (by have h := has_any (ofN ls) v W hXlt; rw [hhas] at h; exact h)
      have d12 : ∀ W, Keep w [(w.heap.size, (bitL (ofN ls)).map Value.bool)] W → Calls Tryd.prog 12 #[.slice p k c, .int .i64 v] W fun e w' => e = .returned (.bool (ls.contains v)) ∧ Keep w [(w.heap.size, (bitL (ofN ls)).map Value.bool)] w' := fun W hS => keep_below hS (contains_any p k c ls v W (hr.below hS.2) (by omega))
      have d13 : ∀ W, Keep w [(w.heap.size, (bitL (ofN ls)).map Value.bool)] W → Calls Tryd.prog 13 #[.int .u64 (ofN ls), .int .i64 v] W fun e w' => e = .returned (.int .u64 ((ofN ls ||| bitN v : Nat) : Int)) ∧ Keep w [(w.heap.size, (bitL (ofN ls)).map Value.bool)] w' := fun W hS => keep_same hS (with_any (ofN ls) v W hXlt)
      have d14 : ∀ W, Keep w [(w.heap.size, (bitL (ofN ls)).map Value.bool)] W → Calls Tryd.prog 14 #[.int .u64 (ofN ls), .int .i64 v] W fun e w' => e = .returned (.int .u64 ((ofN ls &&& (18446744073709551615 - bitN v) : Nat) : Int)) ∧ Keep w [(w.heap.size, (bitL (ofN ls)).map Value.bool)] w' := fun W hS => keep_same hS (without_any (ofN ls) v W hXlt)
      have d8t : ∀ W, Keep w [(w.heap.size, (bitL (ofN ls)).map Value.bool)] W → Calls Tryd.prog 8 #[.agg ((bitL (ofN ls)).map Value.bool).toArray, .int .i64 v, .bool true] W fun e w' => e = .returned (.agg (bools (bitL (ofN ls ||| bitN v)))) ∧ Keep w [(w.heap.size, (bitL (ofN ls)).map Value.bool)] w' := fun W hS => keep_below hS (by have h := put_any (bitL (ofN ls)) v true W (bitL_len _); rw [putB_true] at h; exact h)
      have d8f : ∀ W, Keep w [(w.heap.size, (bitL (ofN ls)).map Value.bool)] W → Calls Tryd.prog 8 #[.agg ((bitL (ofN ls)).map Value.bool).toArray, .int .i64 v, .bool false] W fun e w' => e = .returned (.agg (bools (bitL (ofN ls &&& (18446744073709551615 - bitN v))))) ∧ Keep w [(w.heap.size, (bitL (ofN ls)).map Value.bool)] w' := fun W hS => keep_below hS (by have h := put_any (bitL (ofN ls)) v false W (bitL_len _); rw [putB_false _ _ hXlt] at h; exact h)
      have d10t : ∀ W, Keep w [(w.heap.size, (bitL (ofN ls)).map Value.bool)] W → Calls Tryd.prog 10 #[.agg (bools (bitL (ofN ls ||| bitN v)))] W fun e w' => e = .returned (.int .u64 ((ofN ls ||| bitN v : Nat) : Int)) ∧ Keep w [(w.heap.size, (bitL (ofN ls)).map Value.bool)] w' := fun W hS => keep_below hS (by have h := word_any (bitL (ofN ls ||| bitN v)) W (bitL_len _); rw [word_bits _ (or_lt64 hXlt (bitN_lt v))] at h; exact h)
      have d10f : ∀ W, Keep w [(w.heap.size, (bitL (ofN ls)).map Value.bool)] W → Calls Tryd.prog 10 #[.agg (bools (bitL (ofN ls &&& (18446744073709551615 - bitN v))))] W fun e w' => e = .returned (.int .u64 ((ofN ls &&& (18446744073709551615 - bitN v) : Nat) : Int)) ∧ Keep w [(w.heap.size, (bitL (ofN ls)).map Value.bool)] w' := fun W hS => keep_below hS (by have h := word_any (bitL (ofN ls &&& (18446744073709551615 - bitN v))) W (bitL_len _); rw [word_bits _ (and_lt64 hXlt)] at h; exact h)
      have d7 : ∀ W, Keep w [(w.heap.size, (bitL (ofN ls)).map Value.bool)] W → Calls Tryd.prog 7 #[] W fun e w' => e = .returned (.bool true) ∧ Keep w [(w.heap.size, (bitL (ofN ls)).map Value.bool)] w' := fun W hS => keep_below hS (awake_any W (hT.below hS.2))
      have hK0 : Keep w [(w.heap.size, (bitL (ofN ls)).map Value.bool)] wr := ⟨fun a ha => by rw [List.mem_singleton] at ha; subst ha; exact hA.range, hb⟩
      have hu := Tryd.underlying25
      have hi2 : (Tryd.prog.info? 25).map (·.size) = some ((bitL (ofN ls)).map Value.bool).length := by rw [info_set (bitL (ofN ls)) (bitL_len _), bools_size, List.length_map]
      clear hr hr2 hA hb hz hhas
      generalize bools (bitL (ofN ls ||| bitN v)) = A2 at d8t d10t
      generalize ofN ls ||| bitN v = Y2 at d8t d10t d13
      generalize bools (bitL (ofN ls &&& (18446744073709551615 - bitN v))) = A3 at d8f d10f
      generalize ofN ls &&& (18446744073709551615 - bitN v) = Y3 at d8f d10f d14
      generalize (bitL (ofN ls)).map Value.bool = cs at d7 d8t d8f d10 d10t d10f d11 d12 d13 d14 hK0 hi2
      generalize ofN ls = X at cO d10 d11 d13 d14 hXlt
      generalize ls.contains v = hv at d11 d12
      go_wp2_with fail
      refine cO.mono ?_
      rintro e w2 ⟨rfl, hw⟩
      subst hw
      clear cO
      go_wp2_with fail
      generalize w.heap.size = g at d7 d8t d8f d10 d10t d10f d11 d12 d13 d14 hK0 ⊢
      refine wp_region_held_drew (S := Keep w [(g, cs)]) (by kernel_rfl) hK0.drew (fun hHeld => ?_)
      refine wpAnyH_take (i := 1) (v := _) rfl (by kernel_rfl) (by kernel_rfl) (by kernel_rfl) (fun _ _ _ h => h) (yieldsIf_load_mid (by rfl) _ _ rfl _ _ rfl _ _ (fun _ h => h.at 0 rfl) hu rfl hi2) (by assumption) ?_
      (try simp only [Act.put, List.getElem_toArray, List.getElem_cons_zero, List.getElem_cons_succ, List.setIfInBounds_toArray, List.set_cons_zero, List.set_cons_succ])
      refine wpAnyH_take (i := 0) (v := ?yv0) rfl (by kernel_rfl) (by kernel_rfl) (by kernel_rfl) (fun _ _ _ h => h) (Or.inl ⟨by rfl, ?yy0⟩) (by assumption) ?yr0
      case yy0 => (intro w hSw; (try dsimp only at hSw); go_simp; try with_reducible rfl)
      (try simp only [Act.put, List.getElem_toArray, List.getElem_cons_zero, List.getElem_cons_succ, List.setIfInBounds_toArray, List.set_cons_zero, List.set_cons_succ])
      refine wpAnyH_ready (rs := [2]) (by kernel_rfl) (by simp) (AllReadyH.cons rfl (fun K hK => ?_) AllReadyH.nil)
      go_simp
      refine (d10 _ (by assumption)).mono ?_
      rintro e w' ⟨rfl, hS⟩
      go_wp2_with fail
      refine hK.out _ _ hS (fun hHeld => ?_)
      clear hK K
      (try simp only [Act.put, List.getElem_toArray, List.getElem_cons_zero, List.getElem_cons_succ, List.setIfInBounds_toArray, List.set_cons_zero, List.set_cons_succ])
      refine wpAnyH_take (i := 3) (v := ?yv3) rfl (by kernel_rfl) (by kernel_rfl) (by kernel_rfl) (fun _ _ _ h => h) (Or.inl ⟨by rfl, ?yy3⟩) (by assumption) ?yr3
      case yy3 => (intro w hSw; (try dsimp only at hSw); go_simp; try with_reducible rfl)
      (try simp only [Act.put, List.getElem_toArray, List.getElem_cons_zero, List.getElem_cons_succ, List.setIfInBounds_toArray, List.set_cons_zero, List.set_cons_succ])
      refine wpAnyH_take (i := 4) (v := ?yv4) rfl (by kernel_rfl) (by kernel_rfl) (by kernel_rfl) (fun _ _ _ h => h) (Or.inl ⟨by rfl, ?yy4⟩) (by assumption) ?yr4
      case yy4 => (intro w hSw; (try dsimp only at hSw); go_simp; try with_reducible rfl)
      (try simp only [Act.put, List.getElem_toArray, List.getElem_cons_zero, List.getElem_cons_succ, List.setIfInBounds_toArray, List.set_cons_zero, List.set_cons_succ])
      refine wpAnyH_take (i := 5) (v := ?yv5) rfl (by kernel_rfl) (by kernel_rfl) (by kernel_rfl) (fun _ _ _ h => h) (Or.inl ⟨by rfl, ?yy5⟩) (by assumption) ?yr5
      case yy5 => (intro w hSw; (try dsimp only at hSw); go_simp; try with_reducible rfl)
      (try simp only [Act.put, List.getElem_toArray, List.getElem_cons_zero, List.getElem_cons_succ, List.setIfInBounds_toArray, List.set_cons_zero, List.set_cons_succ])
      refine wpAnyH_take (i := 6) (v := ?yv6) rfl (by kernel_rfl) (by kernel_rfl) (by kernel_rfl) (fun _ _ _ h => h) (Or.inl ⟨by rfl, ?yy6⟩) (by assumption) ?yr6
      case yy6 => (intro w hSw; (try dsimp only at hSw); go_simp; try with_reducible rfl)
      (try simp only [Act.put, List.getElem_toArray, List.getElem_cons_zero, List.getElem_cons_succ, List.setIfInBounds_toArray, List.set_cons_zero, List.set_cons_succ])
      refine wpAnyH_take (i := 8) (v := ?yv8) rfl (by kernel_rfl) (by kernel_rfl) (by kernel_rfl) (fun _ _ _ h => h) (Or.inl ⟨by rfl, ?yy8⟩) (by assumption) ?yr8
      case yy8 => (intro w hSw; (try dsimp only at hSw); go_simp; try with_reducible rfl)
      (try simp only [Act.put, List.getElem_toArray, List.getElem_cons_zero, List.getElem_cons_succ, List.setIfInBounds_toArray, List.set_cons_zero, List.set_cons_succ])
      refine wpAnyH_take (i := 9) (v := ?yv9) rfl (by kernel_rfl) (by kernel_rfl) (by kernel_rfl) (fun _ _ _ h => h) (Or.inl ⟨by rfl, ?yy9⟩) (by assumption) ?yr9
      case yy9 => (intro w hSw; (try dsimp only at hSw); go_simp; try with_reducible rfl)
      (try simp only [Act.put, List.getElem_toArray, List.getElem_cons_zero, List.getElem_cons_succ, List.setIfInBounds_toArray, List.set_cons_zero, List.set_cons_succ])
      refine wpAnyH_ready (rs := [7]) (by kernel_rfl) (by simp) (AllReadyH.cons rfl (fun K hK => ?_) AllReadyH.nil)
      go_simp
      refine (d11 _ (by assumption)).mono ?_
      rintro e w' ⟨rfl, hS⟩
      go_wp2_with fail
      refine hK.out _ _ hS (fun hHeld => ?_)
      clear hK K
      (try simp only [Act.put, List.getElem_toArray, List.getElem_cons_zero, List.getElem_cons_succ, List.setIfInBounds_toArray, List.set_cons_zero, List.set_cons_succ])
      refine wpAnyH_take (i := 10) (v := ?yv10) rfl (by kernel_rfl) (by kernel_rfl) (by kernel_rfl) (fun _ _ _ h => h) (Or.inl ⟨by rfl, ?yy10⟩) (by assumption) ?yr10
      case yy10 => (intro w hSw; (try dsimp only at hSw); go_simp; try with_reducible rfl)
      (try simp only [Act.put, List.getElem_toArray, List.getElem_cons_zero, List.getElem_cons_succ, List.setIfInBounds_toArray, List.set_cons_zero, List.set_cons_succ])
      refine wpAnyH_take (i := 11) (v := ?yv11) rfl (by kernel_rfl) (by kernel_rfl) (by kernel_rfl) (fun _ _ _ h => h) (Or.inl ⟨by rfl, ?yy11⟩) (by assumption) ?yr11
      case yy11 => (intro w hSw; (try dsimp only at hSw); go_simp; try with_reducible rfl)
      (try simp only [Act.put, List.getElem_toArray, List.getElem_cons_zero, List.getElem_cons_succ, List.setIfInBounds_toArray, List.set_cons_zero, List.set_cons_succ])
      refine wpAnyH_take (i := 12) (v := ?yv12) rfl (by kernel_rfl) (by kernel_rfl) (by kernel_rfl) (fun _ _ _ h => h) (Or.inl ⟨by rfl, ?yy12⟩) (by assumption) ?yr12
      case yy12 => (intro w hSw; (try dsimp only at hSw); go_simp; try with_reducible rfl)
      (try simp only [Act.put, List.getElem_toArray, List.getElem_cons_zero, List.getElem_cons_succ, List.setIfInBounds_toArray, List.set_cons_zero, List.set_cons_succ])
      refine wpAnyH_take (i := 13) (v := ?yv13) rfl (by kernel_rfl) (by kernel_rfl) (by kernel_rfl) (fun _ _ _ h => h) (Or.inl ⟨by rfl, ?yy13⟩) (by assumption) ?yr13
      case yy13 => (intro w hSw; (try dsimp only at hSw); go_simp; try with_reducible rfl)
      (try simp only [Act.put, List.getElem_toArray, List.getElem_cons_zero, List.getElem_cons_succ, List.setIfInBounds_toArray, List.set_cons_zero, List.set_cons_succ])
      refine wpAnyH_take (i := 14) (v := ?yv14) rfl (by kernel_rfl) (by kernel_rfl) (by kernel_rfl) (fun _ _ _ h => h) (Or.inl ⟨by rfl, ?yy14⟩) (by assumption) ?yr14
      case yy14 => (intro w hSw; (try dsimp only at hSw); go_simp; try with_reducible rfl)
      (try simp only [Act.put, List.getElem_toArray, List.getElem_cons_zero, List.getElem_cons_succ, List.setIfInBounds_toArray, List.set_cons_zero, List.set_cons_succ])
      refine wpAnyH_take (i := 15) (v := ?yv15) rfl (by kernel_rfl) (by kernel_rfl) (by kernel_rfl) (fun _ _ _ h => h) (Or.inl ⟨by rfl, ?yy15⟩) (by assumption) ?yr15
      case yy15 => (intro w hSw; (try dsimp only at hSw); go_simp; try with_reducible rfl)
      (try simp only [Act.put, List.getElem_toArray, List.getElem_cons_zero, List.getElem_cons_succ, List.setIfInBounds_toArray, List.set_cons_zero, List.set_cons_succ])
      refine wpAnyH_take (i := 16) (v := ?yv16) rfl (by kernel_rfl) (by kernel_rfl) (by kernel_rfl) (fun _ _ _ h => h) (Or.inl ⟨by rfl, ?yy16⟩) (by assumption) ?yr16
      case yy16 => (intro w hSw; (try dsimp only at hSw); go_simp; try with_reducible rfl)
      (try simp only [Act.put, List.getElem_toArray, List.getElem_cons_zero, List.getElem_cons_succ, List.setIfInBounds_toArray, List.set_cons_zero, List.set_cons_succ])
      refine wpAnyH_ready (rs := [17]) (by kernel_rfl) (by simp) (AllReadyH.cons rfl (fun K hK => ?_) AllReadyH.nil)
      go_simp
      refine (d12 _ (by assumption)).mono ?_
      rintro e w' ⟨rfl, hS⟩
      go_wp2_with fail
      refine hK.out _ _ hS (fun hHeld => ?_)
      clear hK K
      (try simp only [Act.put, List.getElem_toArray, List.getElem_cons_zero, List.getElem_cons_succ, List.setIfInBounds_toArray, List.set_cons_zero, List.set_cons_succ])
      refine wpAnyH_take (i := 18) (v := ?yv18) rfl (by kernel_rfl) (by kernel_rfl) (by kernel_rfl) (fun _ _ _ h => h) (Or.inl ⟨by rfl, ?yy18⟩) (by assumption) ?yr18
      case yy18 => (intro w hSw; (try dsimp only at hSw); go_simp; try with_reducible rfl)
      (try simp only [Act.put, List.getElem_toArray, List.getElem_cons_zero, List.getElem_cons_succ, List.setIfInBounds_toArray, List.set_cons_zero, List.set_cons_succ])
      refine wpAnyH_take (i := 19) (v := ?yv19) rfl (by kernel_rfl) (by kernel_rfl) (by kernel_rfl) (fun _ _ _ h => h) (Or.inl ⟨by rfl, ?yy19⟩) (by assumption) ?yr19
      case yy19 => (intro w hSw; (try dsimp only at hSw); go_simp; try with_reducible rfl)
      (try simp only [Act.put, List.getElem_toArray, List.getElem_cons_zero, List.getElem_cons_succ, List.setIfInBounds_toArray, List.set_cons_zero, List.set_cons_succ])
      refine wpAnyH_take (i := 20) (v := ?yv20) rfl (by kernel_rfl) (by kernel_rfl) (by kernel_rfl) (fun _ _ _ h => h) (Or.inl ⟨by rfl, ?yy20⟩) (by assumption) ?yr20
      case yy20 => (intro w hSw; (try dsimp only at hSw); go_simp; try with_reducible rfl)
      (try simp only [Act.put, List.getElem_toArray, List.getElem_cons_zero, List.getElem_cons_succ, List.setIfInBounds_toArray, List.set_cons_zero, List.set_cons_succ])
      refine wpAnyH_take (i := 21) (v := ?yv21) rfl (by kernel_rfl) (by kernel_rfl) (by kernel_rfl) (fun _ _ _ h => h) (Or.inl ⟨by rfl, ?yy21⟩) (by assumption) ?yr21
      case yy21 => (intro w hSw; (try dsimp only at hSw); go_simp; try with_reducible rfl)
      (try simp only [Act.put, List.getElem_toArray, List.getElem_cons_zero, List.getElem_cons_succ, List.setIfInBounds_toArray, List.set_cons_zero, List.set_cons_succ])
      refine wpAnyH_take (i := 25) (v := _) rfl (by kernel_rfl) (by kernel_rfl) (by kernel_rfl) (fun _ _ _ h => h) (yieldsIf_load_mid (by rfl) _ _ rfl _ _ rfl _ _ (fun _ h => h.at 0 rfl) hu rfl hi2) (by assumption) ?_
      (try simp only [Act.put, List.getElem_toArray, List.getElem_cons_zero, List.getElem_cons_succ, List.setIfInBounds_toArray, List.set_cons_zero, List.set_cons_succ])
      refine wpAnyH_take (i := 22) (v := ?yv22) rfl (by kernel_rfl) (by kernel_rfl) (by kernel_rfl) (fun _ _ _ h => h) (Or.inl ⟨by rfl, ?yy22⟩) (by assumption) ?yr22
      case yy22 => (intro w hSw; (try dsimp only at hSw); go_simp; try with_reducible rfl)
      (try simp only [Act.put, List.getElem_toArray, List.getElem_cons_zero, List.getElem_cons_succ, List.setIfInBounds_toArray, List.set_cons_zero, List.set_cons_succ])
      refine wpAnyH_take (i := 23) (v := ?yv23) rfl (by kernel_rfl) (by kernel_rfl) (by kernel_rfl) (fun _ _ _ h => h) (Or.inl ⟨by rfl, ?yy23⟩) (by assumption) ?yr23
      case yy23 => (intro w hSw; (try dsimp only at hSw); go_simp; try with_reducible rfl)
      (try simp only [Act.put, List.getElem_toArray, List.getElem_cons_zero, List.getElem_cons_succ, List.setIfInBounds_toArray, List.set_cons_zero, List.set_cons_succ])
      refine wpAnyH_take (i := 26) (v := ?yv26) rfl (by kernel_rfl) (by kernel_rfl) (by kernel_rfl) (fun _ _ _ h => h) (Or.inl ⟨by rfl, ?yy26⟩) (by assumption) ?yr26
      case yy26 => (intro w hSw; (try dsimp only at hSw); go_simp; try with_reducible rfl)
      (try simp only [Act.put, List.getElem_toArray, List.getElem_cons_zero, List.getElem_cons_succ, List.setIfInBounds_toArray, List.set_cons_zero, List.set_cons_succ])
      refine wpAnyH_ready (rs := [24]) (by kernel_rfl) (by simp) (AllReadyH.cons rfl (fun K hK => ?_) AllReadyH.nil)
      go_simp
      refine (d13 _ (by assumption)).mono ?_
      rintro e w' ⟨rfl, hS⟩
      go_wp2_with fail
      refine hK.out _ _ hS (fun hHeld => ?_)
      clear hK K
      (try simp only [Act.put, List.getElem_toArray, List.getElem_cons_zero, List.getElem_cons_succ, List.setIfInBounds_toArray, List.set_cons_zero, List.set_cons_succ])
      refine wpAnyH_ready (rs := [27]) (by kernel_rfl) (by simp) (AllReadyH.cons rfl (fun K hK => ?_) AllReadyH.nil)
      go_simp
      refine (d8t _ (by assumption)).mono ?_
      rintro e w' ⟨rfl, hS⟩
      go_wp2_with fail
      refine hK.out _ _ hS (fun hHeld => ?_)
      clear hK K
      (try simp only [Act.put, List.getElem_toArray, List.getElem_cons_zero, List.getElem_cons_succ, List.setIfInBounds_toArray, List.set_cons_zero, List.set_cons_succ])
      refine wpAnyH_ready (rs := [28]) (by kernel_rfl) (by simp) (AllReadyH.cons rfl (fun K hK => ?_) AllReadyH.nil)
      go_simp
      refine (d10t _ (by assumption)).mono ?_
      rintro e w' ⟨rfl, hS⟩
      go_wp2_with fail
      refine hK.out _ _ hS (fun hHeld => ?_)
      clear hK K
      (try simp only [Act.put, List.getElem_toArray, List.getElem_cons_zero, List.getElem_cons_succ, List.setIfInBounds_toArray, List.set_cons_zero, List.set_cons_succ])
      refine wpAnyH_take (i := 29) (v := ?yv29) rfl (by kernel_rfl) (by kernel_rfl) (by kernel_rfl) (fun _ _ _ h => h) (Or.inl ⟨by rfl, ?yy29⟩) (by assumption) ?yr29
      case yy29 => (intro w hSw; (try dsimp only at hSw); go_simp; try with_reducible rfl)
      (try simp only [Act.put, List.getElem_toArray, List.getElem_cons_zero, List.getElem_cons_succ, List.setIfInBounds_toArray, List.set_cons_zero, List.set_cons_succ])
      refine wpAnyH_take (i := 30) (v := ?yv30) rfl (by kernel_rfl) (by kernel_rfl) (by kernel_rfl) (fun _ _ _ h => h) (Or.inl ⟨by rfl, ?yy30⟩) (by assumption) ?yr30
      case yy30 => (intro w hSw; (try dsimp only at hSw); go_simp; try with_reducible rfl)
      (try simp only [Act.put, List.getElem_toArray, List.getElem_cons_zero, List.getElem_cons_succ, List.setIfInBounds_toArray, List.set_cons_zero, List.set_cons_succ])
      refine wpAnyH_take (i := 31) (v := ?yv31) rfl (by kernel_rfl) (by kernel_rfl) (by kernel_rfl) (fun _ _ _ h => h) (Or.inl ⟨by rfl, ?yy31⟩) (by assumption) ?yr31
      case yy31 => (intro w hSw; (try dsimp only at hSw); go_simp; try with_reducible rfl)
      (try simp only [Act.put, List.getElem_toArray, List.getElem_cons_zero, List.getElem_cons_succ, List.setIfInBounds_toArray, List.set_cons_zero, List.set_cons_succ])
      refine wpAnyH_take (i := 35) (v := _) rfl (by kernel_rfl) (by kernel_rfl) (by kernel_rfl) (fun _ _ _ h => h) (yieldsIf_load_mid (by rfl) _ _ rfl _ _ rfl _ _ (fun _ h => h.at 0 rfl) hu rfl hi2) (by assumption) ?_
      (try simp only [Act.put, List.getElem_toArray, List.getElem_cons_zero, List.getElem_cons_succ, List.setIfInBounds_toArray, List.set_cons_zero, List.set_cons_succ])
      refine wpAnyH_take (i := 32) (v := ?yv32) rfl (by kernel_rfl) (by kernel_rfl) (by kernel_rfl) (fun _ _ _ h => h) (Or.inl ⟨by rfl, ?yy32⟩) (by assumption) ?yr32
      case yy32 => (intro w hSw; (try dsimp only at hSw); go_simp; try with_reducible rfl)
      (try simp only [Act.put, List.getElem_toArray, List.getElem_cons_zero, List.getElem_cons_succ, List.setIfInBounds_toArray, List.set_cons_zero, List.set_cons_succ])
      refine wpAnyH_take (i := 33) (v := ?yv33) rfl (by kernel_rfl) (by kernel_rfl) (by kernel_rfl) (fun _ _ _ h => h) (Or.inl ⟨by rfl, ?yy33⟩) (by assumption) ?yr33
      case yy33 => (intro w hSw; (try dsimp only at hSw); go_simp; try with_reducible rfl)
      (try simp only [Act.put, List.getElem_toArray, List.getElem_cons_zero, List.getElem_cons_succ, List.setIfInBounds_toArray, List.set_cons_zero, List.set_cons_succ])
      refine wpAnyH_take (i := 36) (v := ?yv36) rfl (by kernel_rfl) (by kernel_rfl) (by kernel_rfl) (fun _ _ _ h => h) (Or.inl ⟨by rfl, ?yy36⟩) (by assumption) ?yr36
      case yy36 => (intro w hSw; (try dsimp only at hSw); go_simp; try with_reducible rfl)
      (try simp only [Act.put, List.getElem_toArray, List.getElem_cons_zero, List.getElem_cons_succ, List.setIfInBounds_toArray, List.set_cons_zero, List.set_cons_succ])
      refine wpAnyH_ready (rs := [34]) (by kernel_rfl) (by simp) (AllReadyH.cons rfl (fun K hK => ?_) AllReadyH.nil)
      go_simp
      refine (d14 _ (by assumption)).mono ?_
      rintro e w' ⟨rfl, hS⟩
      go_wp2_with fail
      refine hK.out _ _ hS (fun hHeld => ?_)
      clear hK K
      (try simp only [Act.put, List.getElem_toArray, List.getElem_cons_zero, List.getElem_cons_succ, List.setIfInBounds_toArray, List.set_cons_zero, List.set_cons_succ])
      refine wpAnyH_ready (rs := [37]) (by kernel_rfl) (by simp) (AllReadyH.cons rfl (fun K hK => ?_) AllReadyH.nil)
      go_simp
      refine (d8f _ (by assumption)).mono ?_
      rintro e w' ⟨rfl, hS⟩
      go_wp2_with fail
      refine hK.out _ _ hS (fun hHeld => ?_)
      clear hK K
      (try simp only [Act.put, List.getElem_toArray, List.getElem_cons_zero, List.getElem_cons_succ, List.setIfInBounds_toArray, List.set_cons_zero, List.set_cons_succ])
      refine wpAnyH_ready (rs := [38]) (by kernel_rfl) (by simp) (AllReadyH.cons rfl (fun K hK => ?_) AllReadyH.nil)
      go_simp
      refine (d10f _ (by assumption)).mono ?_
      rintro e w' ⟨rfl, hS⟩
      go_wp2_with fail
      refine hK.out _ _ hS (fun hHeld => ?_)
      clear hK K
      (try simp only [Act.put, List.getElem_toArray, List.getElem_cons_zero, List.getElem_cons_succ, List.setIfInBounds_toArray, List.set_cons_zero, List.set_cons_succ])
      refine wpAnyH_take (i := 39) (v := ?yv39) rfl (by kernel_rfl) (by kernel_rfl) (by kernel_rfl) (fun _ _ _ h => h) (Or.inl ⟨by rfl, ?yy39⟩) (by assumption) ?yr39
      case yy39 => (intro w hSw; (try dsimp only at hSw); go_simp; try with_reducible rfl)
      (try simp only [Act.put, List.getElem_toArray, List.getElem_cons_zero, List.getElem_cons_succ, List.setIfInBounds_toArray, List.set_cons_zero, List.set_cons_succ])
      refine wpAnyH_take (i := 40) (v := ?yv40) rfl (by kernel_rfl) (by kernel_rfl) (by kernel_rfl) (fun _ _ _ h => h) (Or.inl ⟨by rfl, ?yy40⟩) (by assumption) ?yr40
      case yy40 => (intro w hSw; (try dsimp only at hSw); go_simp; try with_reducible rfl)
      (try simp only [Act.put, List.getElem_toArray, List.getElem_cons_zero, List.getElem_cons_succ, List.setIfInBounds_toArray, List.set_cons_zero, List.set_cons_succ])
      refine wpAnyH_take (i := 41) (v := ?yv41) rfl (by kernel_rfl) (by kernel_rfl) (by kernel_rfl) (fun _ _ _ h => h) (Or.inl ⟨by rfl, ?yy41⟩) (by assumption) ?yr41
      case yy41 => (intro w hSw; (try dsimp only at hSw); go_simp; try with_reducible rfl)
      (try simp only [Act.put, List.getElem_toArray, List.getElem_cons_zero, List.getElem_cons_succ, List.setIfInBounds_toArray, List.set_cons_zero, List.set_cons_succ])
      refine wpAnyH_ready (rs := [42]) (by kernel_rfl) (by simp) (AllReadyH.cons rfl (fun K hK => ?_) AllReadyH.nil)
      go_simp
      refine (d7 _ (by assumption)).mono ?_
      rintro e w' ⟨rfl, hS⟩
      go_wp2_with fail
      refine hK.out _ _ hS (fun hHeld => ?_)
      clear hK K
      (try simp only [Act.put, List.getElem_toArray, List.getElem_cons_zero, List.getElem_cons_succ, List.setIfInBounds_toArray, List.set_cons_zero, List.set_cons_succ])
      refine wpAnyH_take (i := 43) (v := ?yv43) rfl (by kernel_rfl) (by kernel_rfl) (by kernel_rfl) (fun _ _ _ h => h) (Or.inl ⟨by rfl, ?yy43⟩) (by assumption) ?yr43
      case yy43 => (intro w hSw; (try dsimp only at hSw); go_simp; try with_reducible rfl)
      (try simp only [Act.put, List.getElem_toArray, List.getElem_cons_zero, List.getElem_cons_succ, List.setIfInBounds_toArray, List.set_cons_zero, List.set_cons_succ])
      refine wpAnyH_take (i := 44) (v := ?yv44) rfl (by kernel_rfl) (by kernel_rfl) (by kernel_rfl) (fun _ _ _ h => h) (Or.inl ⟨by rfl, ?yy44⟩) (by assumption) ?yr44
      case yy44 => (intro w hSw; (try dsimp only at hSw); go_simp; try with_reducible rfl)
      (try simp only [Act.put, List.getElem_toArray, List.getElem_cons_zero, List.getElem_cons_succ, List.setIfInBounds_toArray, List.set_cons_zero, List.set_cons_succ])
      refine wpAnyH_done (by kernel_rfl) ?_ _
      go_wp2_with fail
      go_ret
      exact ⟨rfl, hS.2⟩

set_option maxRecDepth 20000 in
set_option linter.unusedSimpArgs false in
set_option maxHeartbeats 4000000 in
theorem of_low (p : Option Addr) (n c : Nat) (ls : List Int) (v : Int) (w : World) (hT : Tab w) (hr : Rd .i64 w p n c ls) (hn : n ≤ 500) (hhas : hasN (ofN ls) v = false) (hv1 : decide (0 ≤ v) = false) :
    Calls Tryd.prog 3 #[.slice p n c, .int .i64 v] w fun e w' => e = .returned (.bool true) ∧ Below w.heap.size w w' := by
  have hd1 : decide ((500 : Int) < (n : Int)) = false := decide_eq_false (by omega)
  have hd2 : decide (500 < n) = false := decide_eq_false (by omega)
  have hl := hr.len
  have hz : ∀ x : Nat, (bools (List.replicate 64 false)).size = (bools (bitL x)).size := fun x => by rw [bools_size, bools_size, bitL_len]; rfl
  go_enter Tryd.func3, Tryd.ntmps3
  go_wp2_with fail
  go_loopw [15] (fun i wr => ∃ k : Nat, k ≤ n ∧ i = .int .i64 k ∧ Arr wr w.heap.size (bitL (ofN (ls.take k))) ∧ Below w.heap.size w wr) (fun i _ => n - (intOf i).toNat)
  case atStart => exact ⟨0, Nat.zero_le _, rfl, by rw [show ofN (ls.take 0) = 0 from rfl, bitL_zero]; exact heap_alloc_new _ _, below_alloc _ _⟩
  case round =>
    obtain ⟨k, hk, rfl, hA, hb⟩ := hrel
    by_cases h : k < n
    · obtain ⟨b, o, rfl, hc⟩ := (hr.below hb).cells (by omega)
      have h1 := hc k h
      have hS : Hid (ofN (ls.take (k + 1)) = ofN (ls.take k) ||| bitN (ls.getD k 0)) := ofN_snoc (by omega)
      have hi := info_set (bitL (ofN (ls.take k))) (bitL_len _)
      have hi2 := info_set (bitL (ofN (ls.take (k + 1)))) (bitL_len _)
      have cP := fun W => put_any (bitL (ofN (ls.take k))) (ls.getD k 0) true W (bitL_len _)
      rw [putB_true, ← hS.out] at cP
      have hsz : (bools (bitL (ofN (ls.take k)))).size = (bools (bitL (ofN (ls.take (k + 1))))).size := by rw [bools_size, bools_size, bitL_len, bitL_len]
      clear hc hr hS hz
      generalize ls.getD k 0 = z at h1 cP
      generalize hX2 : bitL (ofN (ls.take (k + 1))) = X2 at cP hsz hi2
      have HX2 : Hid (bitL (ofN (ls.take (k + 1))) = X2) := hX2
      generalize bitL (ofN (ls.take k)) = X1 at hA hi cP hsz
      clear hX2
      go_wp2_with (refine wpList_load_row rfl 25 _ rfl w.heap.size rfl _ _ _ _ hA Tryd.underlying25 rfl hi ?_)
      refine (cP _).mono ?_
      rintro e w2 ⟨rfl, hb2⟩
      have hA2 := hA.below hb2
      have hA3 := hA2.setRow X2
      have hb3 := (hb.trans (hb2.mono hb.size)).trans (below_setRow w2 w.heap.size (bools X2) (Nat.le_refl _))
      clear hA hb hb2 cP
      go_wp2_with (refine wpList_store_row rfl 25 _ _ rfl w.heap.size _ rfl rfl _ _ hA2 hi2 hsz (bools_one _) ?_)
      generalize w2.setRow w.heap.size (bools X2) = w3 at hA3 hb3 ⊢
      go_roundw
      case rel => exact ⟨k + 1, by omega, by go_num, by rw [HX2.out]; exact hA3, hb3⟩
      case measure => simp [intOf]; omega
    · obtain rfl : k = n := by omega
      have e1 : ls.take k = ls := List.take_of_length_le (by omega)
      rw [e1] at hA
      have hr2 := hr.below hb
      have cO := of_any p k c ls wr hr2 (by omega)
      have hXlt := ofN_lt ls
      have d10 : ∀ W, Keep w [(w.heap.size, (bitL (ofN ls)).map Value.bool)] W → Calls Tryd.prog 10 #[.agg ((bitL (ofN ls)).map Value.bool).toArray] W fun e w' => e = .returned (.int .u64 (ofN ls)) ∧ Keep w [(w.heap.size, (bitL (ofN ls)).map Value.bool)] w' := fun W hS => keep_below hS (by have h := word_any (bitL (ofN ls)) W (bitL_len _); rw [word_bits _ hXlt] at h; exact h)
      have d11 : ∀ W, Keep w [(w.heap.size, (bitL (ofN ls)).map Value.bool)] W → Calls Tryd.prog 11 #[.int .u64 (ofN ls), .int .i64 v] W fun e w' => e = .returned (.bool false) ∧ Keep w [(w.heap.size, (bitL (ofN ls)).map Value.bool)] w' := fun W hS => keep_same hS (by have h := has_any (ofN ls) v W hXlt; rw [hhas] at h; exact h)
      have d12 : ∀ W, Keep w [(w.heap.size, (bitL (ofN ls)).map Value.bool)] W → Calls Tryd.prog 12 #[.slice p k c, .int .i64 v] W fun e w' => e = .returned (.bool (ls.contains v)) ∧ Keep w [(w.heap.size, (bitL (ofN ls)).map Value.bool)] w' := fun W hS => keep_below hS (contains_any p k c ls v W (hr.below hS.2) (by omega))
      have d13 : ∀ W, Keep w [(w.heap.size, (bitL (ofN ls)).map Value.bool)] W → Calls Tryd.prog 13 #[.int .u64 (ofN ls), .int .i64 v] W fun e w' => e = .returned (.int .u64 ((ofN ls ||| bitN v : Nat) : Int)) ∧ Keep w [(w.heap.size, (bitL (ofN ls)).map Value.bool)] w' := fun W hS => keep_same hS (with_any (ofN ls) v W hXlt)
      have d14 : ∀ W, Keep w [(w.heap.size, (bitL (ofN ls)).map Value.bool)] W → Calls Tryd.prog 14 #[.int .u64 (ofN ls), .int .i64 v] W fun e w' => e = .returned (.int .u64 ((ofN ls &&& (18446744073709551615 - bitN v) : Nat) : Int)) ∧ Keep w [(w.heap.size, (bitL (ofN ls)).map Value.bool)] w' := fun W hS => keep_same hS (without_any (ofN ls) v W hXlt)
      have d8t : ∀ W, Keep w [(w.heap.size, (bitL (ofN ls)).map Value.bool)] W → Calls Tryd.prog 8 #[.agg ((bitL (ofN ls)).map Value.bool).toArray, .int .i64 v, .bool true] W fun e w' => e = .returned (.agg (bools (bitL (ofN ls ||| bitN v)))) ∧ Keep w [(w.heap.size, (bitL (ofN ls)).map Value.bool)] w' := fun W hS => keep_below hS (by have h := put_any (bitL (ofN ls)) v true W (bitL_len _); rw [putB_true] at h; exact h)
      have d8f : ∀ W, Keep w [(w.heap.size, (bitL (ofN ls)).map Value.bool)] W → Calls Tryd.prog 8 #[.agg ((bitL (ofN ls)).map Value.bool).toArray, .int .i64 v, .bool false] W fun e w' => e = .returned (.agg (bools (bitL (ofN ls &&& (18446744073709551615 - bitN v))))) ∧ Keep w [(w.heap.size, (bitL (ofN ls)).map Value.bool)] w' := fun W hS => keep_below hS (by have h := put_any (bitL (ofN ls)) v false W (bitL_len _); rw [putB_false _ _ hXlt] at h; exact h)
      have d10t : ∀ W, Keep w [(w.heap.size, (bitL (ofN ls)).map Value.bool)] W → Calls Tryd.prog 10 #[.agg (bools (bitL (ofN ls ||| bitN v)))] W fun e w' => e = .returned (.int .u64 ((ofN ls ||| bitN v : Nat) : Int)) ∧ Keep w [(w.heap.size, (bitL (ofN ls)).map Value.bool)] w' := fun W hS => keep_below hS (by have h := word_any (bitL (ofN ls ||| bitN v)) W (bitL_len _); rw [word_bits _ (or_lt64 hXlt (bitN_lt v))] at h; exact h)
      have d10f : ∀ W, Keep w [(w.heap.size, (bitL (ofN ls)).map Value.bool)] W → Calls Tryd.prog 10 #[.agg (bools (bitL (ofN ls &&& (18446744073709551615 - bitN v))))] W fun e w' => e = .returned (.int .u64 ((ofN ls &&& (18446744073709551615 - bitN v) : Nat) : Int)) ∧ Keep w [(w.heap.size, (bitL (ofN ls)).map Value.bool)] w' := fun W hS => keep_below hS (by have h := word_any (bitL (ofN ls &&& (18446744073709551615 - bitN v))) W (bitL_len _); rw [word_bits _ (and_lt64 hXlt)] at h; exact h)
      have d7 : ∀ W, Keep w [(w.heap.size, (bitL (ofN ls)).map Value.bool)] W → Calls Tryd.prog 7 #[] W fun e w' => e = .returned (.bool true) ∧ Keep w [(w.heap.size, (bitL (ofN ls)).map Value.bool)] w' := fun W hS => keep_below hS (awake_any W (hT.below hS.2))
      have hK0 : Keep w [(w.heap.size, (bitL (ofN ls)).map Value.bool)] wr := ⟨fun a ha => by rw [List.mem_singleton] at ha; subst ha; exact hA.range, hb⟩
      have hu := Tryd.underlying25
      have hi2 : (Tryd.prog.info? 25).map (·.size) = some ((bitL (ofN ls)).map Value.bool).length := by rw [info_set (bitL (ofN ls)) (bitL_len _), bools_size, List.length_map]
      clear hr hr2 hA hb hz hhas
      generalize bools (bitL (ofN ls ||| bitN v)) = A2 at d8t d10t
      generalize ofN ls ||| bitN v = Y2 at d8t d10t d13
      generalize bools (bitL (ofN ls &&& (18446744073709551615 - bitN v))) = A3 at d8f d10f
      generalize ofN ls &&& (18446744073709551615 - bitN v) = Y3 at d8f d10f d14
      generalize (bitL (ofN ls)).map Value.bool = cs at d7 d8t d8f d10 d10t d10f d11 d12 d13 d14 hK0 hi2
      generalize ofN ls = X at cO d10 d11 d13 d14 hXlt
      generalize ls.contains v = hv at d11 d12
      go_wp2_with fail
      refine cO.mono ?_
      rintro e w2 ⟨rfl, hw⟩
      subst hw
      clear cO
      go_wp2_with fail
      generalize w.heap.size = g at d7 d8t d8f d10 d10t d10f d11 d12 d13 d14 hK0 ⊢
      refine wp_region_held_drew (S := Keep w [(g, cs)]) (by kernel_rfl) hK0.drew (fun hHeld => ?_)
      refine wpAnyH_take (i := 1) (v := _) rfl (by kernel_rfl) (by kernel_rfl) (by kernel_rfl) (fun _ _ _ h => h) (yieldsIf_load_mid (by rfl) _ _ rfl _ _ rfl _ _ (fun _ h => h.at 0 rfl) hu rfl hi2) (by assumption) ?_
      (try simp only [Act.put, List.getElem_toArray, List.getElem_cons_zero, List.getElem_cons_succ, List.setIfInBounds_toArray, List.set_cons_zero, List.set_cons_succ])
      refine wpAnyH_take (i := 0) (v := ?yv0) rfl (by kernel_rfl) (by kernel_rfl) (by kernel_rfl) (fun _ _ _ h => h) (Or.inl ⟨by rfl, ?yy0⟩) (by assumption) ?yr0
      case yy0 => (intro w hSw; (try dsimp only at hSw); go_simp; try with_reducible rfl)
      (try simp only [Act.put, List.getElem_toArray, List.getElem_cons_zero, List.getElem_cons_succ, List.setIfInBounds_toArray, List.set_cons_zero, List.set_cons_succ])
      refine wpAnyH_ready (rs := [2]) (by kernel_rfl) (by simp) (AllReadyH.cons rfl (fun K hK => ?_) AllReadyH.nil)
      go_simp
      refine (d10 _ (by assumption)).mono ?_
      rintro e w' ⟨rfl, hS⟩
      go_wp2_with fail
      refine hK.out _ _ hS (fun hHeld => ?_)
      clear hK K
      (try simp only [Act.put, List.getElem_toArray, List.getElem_cons_zero, List.getElem_cons_succ, List.setIfInBounds_toArray, List.set_cons_zero, List.set_cons_succ])
      refine wpAnyH_take (i := 3) (v := ?yv3) rfl (by kernel_rfl) (by kernel_rfl) (by kernel_rfl) (fun _ _ _ h => h) (Or.inl ⟨by rfl, ?yy3⟩) (by assumption) ?yr3
      case yy3 => (intro w hSw; (try dsimp only at hSw); go_simp; try with_reducible rfl)
      (try simp only [Act.put, List.getElem_toArray, List.getElem_cons_zero, List.getElem_cons_succ, List.setIfInBounds_toArray, List.set_cons_zero, List.set_cons_succ])
      refine wpAnyH_take (i := 4) (v := ?yv4) rfl (by kernel_rfl) (by kernel_rfl) (by kernel_rfl) (fun _ _ _ h => h) (Or.inl ⟨by rfl, ?yy4⟩) (by assumption) ?yr4
      case yy4 => (intro w hSw; (try dsimp only at hSw); go_simp; try with_reducible rfl)
      (try simp only [Act.put, List.getElem_toArray, List.getElem_cons_zero, List.getElem_cons_succ, List.setIfInBounds_toArray, List.set_cons_zero, List.set_cons_succ])
      refine wpAnyH_take (i := 5) (v := ?yv5) rfl (by kernel_rfl) (by kernel_rfl) (by kernel_rfl) (fun _ _ _ h => h) (Or.inl ⟨by rfl, ?yy5⟩) (by assumption) ?yr5
      case yy5 => (intro w hSw; (try dsimp only at hSw); go_simp; try with_reducible rfl)
      (try simp only [Act.put, List.getElem_toArray, List.getElem_cons_zero, List.getElem_cons_succ, List.setIfInBounds_toArray, List.set_cons_zero, List.set_cons_succ])
      refine wpAnyH_take (i := 6) (v := ?yv6) rfl (by kernel_rfl) (by kernel_rfl) (by kernel_rfl) (fun _ _ _ h => h) (Or.inl ⟨by rfl, ?yy6⟩) (by assumption) ?yr6
      case yy6 => (intro w hSw; (try dsimp only at hSw); go_simp; try with_reducible rfl)
      (try simp only [Act.put, List.getElem_toArray, List.getElem_cons_zero, List.getElem_cons_succ, List.setIfInBounds_toArray, List.set_cons_zero, List.set_cons_succ])
      refine wpAnyH_take (i := 8) (v := ?yv8) rfl (by kernel_rfl) (by kernel_rfl) (by kernel_rfl) (fun _ _ _ h => h) (Or.inl ⟨by rfl, ?yy8⟩) (by assumption) ?yr8
      case yy8 => (intro w hSw; (try dsimp only at hSw); go_simp; try with_reducible rfl)
      (try simp only [Act.put, List.getElem_toArray, List.getElem_cons_zero, List.getElem_cons_succ, List.setIfInBounds_toArray, List.set_cons_zero, List.set_cons_succ])
      refine wpAnyH_take (i := 9) (v := ?yv9) rfl (by kernel_rfl) (by kernel_rfl) (by kernel_rfl) (fun _ _ _ h => h) (Or.inl ⟨by rfl, ?yy9⟩) (by assumption) ?yr9
      case yy9 => (intro w hSw; (try dsimp only at hSw); go_simp; try with_reducible rfl)
      (try simp only [Act.put, List.getElem_toArray, List.getElem_cons_zero, List.getElem_cons_succ, List.setIfInBounds_toArray, List.set_cons_zero, List.set_cons_succ])
      refine wpAnyH_ready (rs := [7]) (by kernel_rfl) (by simp) (AllReadyH.cons rfl (fun K hK => ?_) AllReadyH.nil)
      go_simp
      refine (d11 _ (by assumption)).mono ?_
      rintro e w' ⟨rfl, hS⟩
      go_wp2_with fail
      refine hK.out _ _ hS (fun hHeld => ?_)
      clear hK K
      (try simp only [Act.put, List.getElem_toArray, List.getElem_cons_zero, List.getElem_cons_succ, List.setIfInBounds_toArray, List.set_cons_zero, List.set_cons_succ])
      refine wpAnyH_take (i := 10) (v := ?yv10) rfl (by kernel_rfl) (by kernel_rfl) (by kernel_rfl) (fun _ _ _ h => h) (Or.inl ⟨by rfl, ?yy10⟩) (by assumption) ?yr10
      case yy10 => (intro w hSw; (try dsimp only at hSw); go_simp; try with_reducible rfl)
      (try simp only [Act.put, List.getElem_toArray, List.getElem_cons_zero, List.getElem_cons_succ, List.setIfInBounds_toArray, List.set_cons_zero, List.set_cons_succ])
      refine wpAnyH_take (i := 11) (v := undef) rfl (by kernel_rfl) (by kernel_rfl) (by kernel_rfl) (fun _ _ _ h => h) (Or.inr ⟨by rfl, rfl⟩) (by assumption) ?_
      (try simp only [Act.put, List.getElem_toArray, List.getElem_cons_zero, List.getElem_cons_succ, List.setIfInBounds_toArray, List.set_cons_zero, List.set_cons_succ])
      refine wpAnyH_take (i := 12) (v := undef) rfl (by kernel_rfl) (by kernel_rfl) (by kernel_rfl) (fun _ _ _ h => h) (Or.inr ⟨by rfl, rfl⟩) (by assumption) ?_
      (try simp only [Act.put, List.getElem_toArray, List.getElem_cons_zero, List.getElem_cons_succ, List.setIfInBounds_toArray, List.set_cons_zero, List.set_cons_succ])
      refine wpAnyH_take (i := 13) (v := ?yv13) rfl (by kernel_rfl) (by kernel_rfl) (by kernel_rfl) (fun _ _ _ h => h) (Or.inl ⟨by rfl, ?yy13⟩) (by assumption) ?yr13
      case yy13 => (intro w hSw; (try dsimp only at hSw); go_simp; try with_reducible rfl)
      (try simp only [Act.put, List.getElem_toArray, List.getElem_cons_zero, List.getElem_cons_succ, List.setIfInBounds_toArray, List.set_cons_zero, List.set_cons_succ])
      refine wpAnyH_take (i := 14) (v := ?yv14) rfl (by kernel_rfl) (by kernel_rfl) (by kernel_rfl) (fun _ _ _ h => h) (Or.inl ⟨by rfl, ?yy14⟩) (by assumption) ?yr14
      case yy14 => (intro w hSw; (try dsimp only at hSw); go_simp; try with_reducible rfl)
      (try simp only [Act.put, List.getElem_toArray, List.getElem_cons_zero, List.getElem_cons_succ, List.setIfInBounds_toArray, List.set_cons_zero, List.set_cons_succ])
      refine wpAnyH_take (i := 15) (v := undef) rfl (by kernel_rfl) (by kernel_rfl) (by kernel_rfl) (fun _ _ _ h => h) (Or.inr ⟨by rfl, rfl⟩) (by assumption) ?_
      (try simp only [Act.put, List.getElem_toArray, List.getElem_cons_zero, List.getElem_cons_succ, List.setIfInBounds_toArray, List.set_cons_zero, List.set_cons_succ])
      refine wpAnyH_take (i := 16) (v := undef) rfl (by kernel_rfl) (by kernel_rfl) (by kernel_rfl) (fun _ _ _ h => h) (Or.inr ⟨by rfl, rfl⟩) (by assumption) ?_
      (try simp only [Act.put, List.getElem_toArray, List.getElem_cons_zero, List.getElem_cons_succ, List.setIfInBounds_toArray, List.set_cons_zero, List.set_cons_succ])
      refine wpAnyH_take (i := 17) (v := undef) rfl (by kernel_rfl) (by kernel_rfl) (by kernel_rfl) (fun _ _ _ h => h) (Or.inr ⟨by rfl, rfl⟩) (by assumption) ?_
      (try simp only [Act.put, List.getElem_toArray, List.getElem_cons_zero, List.getElem_cons_succ, List.setIfInBounds_toArray, List.set_cons_zero, List.set_cons_succ])
      refine wpAnyH_take (i := 18) (v := ?yv18) rfl (by kernel_rfl) (by kernel_rfl) (by kernel_rfl) (fun _ _ _ h => h) (Or.inl ⟨by rfl, ?yy18⟩) (by assumption) ?yr18
      case yy18 => (intro w hSw; (try dsimp only at hSw); go_simp; try with_reducible rfl)
      (try simp only [Act.put, List.getElem_toArray, List.getElem_cons_zero, List.getElem_cons_succ, List.setIfInBounds_toArray, List.set_cons_zero, List.set_cons_succ])
      refine wpAnyH_take (i := 19) (v := ?yv19) rfl (by kernel_rfl) (by kernel_rfl) (by kernel_rfl) (fun _ _ _ h => h) (Or.inl ⟨by rfl, ?yy19⟩) (by assumption) ?yr19
      case yy19 => (intro w hSw; (try dsimp only at hSw); go_simp; try with_reducible rfl)
      (try simp only [Act.put, List.getElem_toArray, List.getElem_cons_zero, List.getElem_cons_succ, List.setIfInBounds_toArray, List.set_cons_zero, List.set_cons_succ])
      refine wpAnyH_take (i := 20) (v := ?yv20) rfl (by kernel_rfl) (by kernel_rfl) (by kernel_rfl) (fun _ _ _ h => h) (Or.inl ⟨by rfl, ?yy20⟩) (by assumption) ?yr20
      case yy20 => (intro w hSw; (try dsimp only at hSw); go_simp; try with_reducible rfl)
      (try simp only [Act.put, List.getElem_toArray, List.getElem_cons_zero, List.getElem_cons_succ, List.setIfInBounds_toArray, List.set_cons_zero, List.set_cons_succ])
      refine wpAnyH_take (i := 21) (v := ?yv21) rfl (by kernel_rfl) (by kernel_rfl) (by kernel_rfl) (fun _ _ _ h => h) (Or.inl ⟨by rfl, ?yy21⟩) (by assumption) ?yr21
      case yy21 => (intro w hSw; (try dsimp only at hSw); go_simp; try with_reducible rfl)
      (try simp only [Act.put, List.getElem_toArray, List.getElem_cons_zero, List.getElem_cons_succ, List.setIfInBounds_toArray, List.set_cons_zero, List.set_cons_succ])
      refine wpAnyH_take (i := 25) (v := _) rfl (by kernel_rfl) (by kernel_rfl) (by kernel_rfl) (fun _ _ _ h => h) (yieldsIf_load_mid (by rfl) _ _ rfl _ _ rfl _ _ (fun _ h => h.at 0 rfl) hu rfl hi2) (by assumption) ?_
      (try simp only [Act.put, List.getElem_toArray, List.getElem_cons_zero, List.getElem_cons_succ, List.setIfInBounds_toArray, List.set_cons_zero, List.set_cons_succ])
      refine wpAnyH_take (i := 22) (v := ?yv22) rfl (by kernel_rfl) (by kernel_rfl) (by kernel_rfl) (fun _ _ _ h => h) (Or.inl ⟨by rfl, ?yy22⟩) (by assumption) ?yr22
      case yy22 => (intro w hSw; (try dsimp only at hSw); go_simp; try with_reducible rfl)
      (try simp only [Act.put, List.getElem_toArray, List.getElem_cons_zero, List.getElem_cons_succ, List.setIfInBounds_toArray, List.set_cons_zero, List.set_cons_succ])
      refine wpAnyH_take (i := 23) (v := ?yv23) rfl (by kernel_rfl) (by kernel_rfl) (by kernel_rfl) (fun _ _ _ h => h) (Or.inl ⟨by rfl, ?yy23⟩) (by assumption) ?yr23
      case yy23 => (intro w hSw; (try dsimp only at hSw); go_simp; try with_reducible rfl)
      (try simp only [Act.put, List.getElem_toArray, List.getElem_cons_zero, List.getElem_cons_succ, List.setIfInBounds_toArray, List.set_cons_zero, List.set_cons_succ])
      refine wpAnyH_take (i := 26) (v := ?yv26) rfl (by kernel_rfl) (by kernel_rfl) (by kernel_rfl) (fun _ _ _ h => h) (Or.inl ⟨by rfl, ?yy26⟩) (by assumption) ?yr26
      case yy26 => (intro w hSw; (try dsimp only at hSw); go_simp; try with_reducible rfl)
      (try simp only [Act.put, List.getElem_toArray, List.getElem_cons_zero, List.getElem_cons_succ, List.setIfInBounds_toArray, List.set_cons_zero, List.set_cons_succ])
      refine wpAnyH_ready (rs := [24]) (by kernel_rfl) (by simp) (AllReadyH.cons rfl (fun K hK => ?_) AllReadyH.nil)
      go_simp
      refine (d13 _ (by assumption)).mono ?_
      rintro e w' ⟨rfl, hS⟩
      go_wp2_with fail
      refine hK.out _ _ hS (fun hHeld => ?_)
      clear hK K
      (try simp only [Act.put, List.getElem_toArray, List.getElem_cons_zero, List.getElem_cons_succ, List.setIfInBounds_toArray, List.set_cons_zero, List.set_cons_succ])
      refine wpAnyH_ready (rs := [27]) (by kernel_rfl) (by simp) (AllReadyH.cons rfl (fun K hK => ?_) AllReadyH.nil)
      go_simp
      refine (d8t _ (by assumption)).mono ?_
      rintro e w' ⟨rfl, hS⟩
      go_wp2_with fail
      refine hK.out _ _ hS (fun hHeld => ?_)
      clear hK K
      (try simp only [Act.put, List.getElem_toArray, List.getElem_cons_zero, List.getElem_cons_succ, List.setIfInBounds_toArray, List.set_cons_zero, List.set_cons_succ])
      refine wpAnyH_ready (rs := [28]) (by kernel_rfl) (by simp) (AllReadyH.cons rfl (fun K hK => ?_) AllReadyH.nil)
      go_simp
      refine (d10t _ (by assumption)).mono ?_
      rintro e w' ⟨rfl, hS⟩
      go_wp2_with fail
      refine hK.out _ _ hS (fun hHeld => ?_)
      clear hK K
      (try simp only [Act.put, List.getElem_toArray, List.getElem_cons_zero, List.getElem_cons_succ, List.setIfInBounds_toArray, List.set_cons_zero, List.set_cons_succ])
      refine wpAnyH_take (i := 29) (v := ?yv29) rfl (by kernel_rfl) (by kernel_rfl) (by kernel_rfl) (fun _ _ _ h => h) (Or.inl ⟨by rfl, ?yy29⟩) (by assumption) ?yr29
      case yy29 => (intro w hSw; (try dsimp only at hSw); go_simp; try with_reducible rfl)
      (try simp only [Act.put, List.getElem_toArray, List.getElem_cons_zero, List.getElem_cons_succ, List.setIfInBounds_toArray, List.set_cons_zero, List.set_cons_succ])
      refine wpAnyH_take (i := 30) (v := ?yv30) rfl (by kernel_rfl) (by kernel_rfl) (by kernel_rfl) (fun _ _ _ h => h) (Or.inl ⟨by rfl, ?yy30⟩) (by assumption) ?yr30
      case yy30 => (intro w hSw; (try dsimp only at hSw); go_simp; try with_reducible rfl)
      (try simp only [Act.put, List.getElem_toArray, List.getElem_cons_zero, List.getElem_cons_succ, List.setIfInBounds_toArray, List.set_cons_zero, List.set_cons_succ])
      refine wpAnyH_take (i := 31) (v := ?yv31) rfl (by kernel_rfl) (by kernel_rfl) (by kernel_rfl) (fun _ _ _ h => h) (Or.inl ⟨by rfl, ?yy31⟩) (by assumption) ?yr31
      case yy31 => (intro w hSw; (try dsimp only at hSw); go_simp; try with_reducible rfl)
      (try simp only [Act.put, List.getElem_toArray, List.getElem_cons_zero, List.getElem_cons_succ, List.setIfInBounds_toArray, List.set_cons_zero, List.set_cons_succ])
      refine wpAnyH_take (i := 35) (v := _) rfl (by kernel_rfl) (by kernel_rfl) (by kernel_rfl) (fun _ _ _ h => h) (yieldsIf_load_mid (by rfl) _ _ rfl _ _ rfl _ _ (fun _ h => h.at 0 rfl) hu rfl hi2) (by assumption) ?_
      (try simp only [Act.put, List.getElem_toArray, List.getElem_cons_zero, List.getElem_cons_succ, List.setIfInBounds_toArray, List.set_cons_zero, List.set_cons_succ])
      refine wpAnyH_take (i := 32) (v := ?yv32) rfl (by kernel_rfl) (by kernel_rfl) (by kernel_rfl) (fun _ _ _ h => h) (Or.inl ⟨by rfl, ?yy32⟩) (by assumption) ?yr32
      case yy32 => (intro w hSw; (try dsimp only at hSw); go_simp; try with_reducible rfl)
      (try simp only [Act.put, List.getElem_toArray, List.getElem_cons_zero, List.getElem_cons_succ, List.setIfInBounds_toArray, List.set_cons_zero, List.set_cons_succ])
      refine wpAnyH_take (i := 33) (v := ?yv33) rfl (by kernel_rfl) (by kernel_rfl) (by kernel_rfl) (fun _ _ _ h => h) (Or.inl ⟨by rfl, ?yy33⟩) (by assumption) ?yr33
      case yy33 => (intro w hSw; (try dsimp only at hSw); go_simp; try with_reducible rfl)
      (try simp only [Act.put, List.getElem_toArray, List.getElem_cons_zero, List.getElem_cons_succ, List.setIfInBounds_toArray, List.set_cons_zero, List.set_cons_succ])
      refine wpAnyH_take (i := 36) (v := ?yv36) rfl (by kernel_rfl) (by kernel_rfl) (by kernel_rfl) (fun _ _ _ h => h) (Or.inl ⟨by rfl, ?yy36⟩) (by assumption) ?yr36
      case yy36 => (intro w hSw; (try dsimp only at hSw); go_simp; try with_reducible rfl)
      (try simp only [Act.put, List.getElem_toArray, List.getElem_cons_zero, List.getElem_cons_succ, List.setIfInBounds_toArray, List.set_cons_zero, List.set_cons_succ])
      refine wpAnyH_ready (rs := [34]) (by kernel_rfl) (by simp) (AllReadyH.cons rfl (fun K hK => ?_) AllReadyH.nil)
      go_simp
      refine (d14 _ (by assumption)).mono ?_
      rintro e w' ⟨rfl, hS⟩
      go_wp2_with fail
      refine hK.out _ _ hS (fun hHeld => ?_)
      clear hK K
      (try simp only [Act.put, List.getElem_toArray, List.getElem_cons_zero, List.getElem_cons_succ, List.setIfInBounds_toArray, List.set_cons_zero, List.set_cons_succ])
      refine wpAnyH_ready (rs := [37]) (by kernel_rfl) (by simp) (AllReadyH.cons rfl (fun K hK => ?_) AllReadyH.nil)
      go_simp
      refine (d8f _ (by assumption)).mono ?_
      rintro e w' ⟨rfl, hS⟩
      go_wp2_with fail
      refine hK.out _ _ hS (fun hHeld => ?_)
      clear hK K
      (try simp only [Act.put, List.getElem_toArray, List.getElem_cons_zero, List.getElem_cons_succ, List.setIfInBounds_toArray, List.set_cons_zero, List.set_cons_succ])
      refine wpAnyH_ready (rs := [38]) (by kernel_rfl) (by simp) (AllReadyH.cons rfl (fun K hK => ?_) AllReadyH.nil)
      go_simp
      refine (d10f _ (by assumption)).mono ?_
      rintro e w' ⟨rfl, hS⟩
      go_wp2_with fail
      refine hK.out _ _ hS (fun hHeld => ?_)
      clear hK K
      (try simp only [Act.put, List.getElem_toArray, List.getElem_cons_zero, List.getElem_cons_succ, List.setIfInBounds_toArray, List.set_cons_zero, List.set_cons_succ])
      refine wpAnyH_take (i := 39) (v := ?yv39) rfl (by kernel_rfl) (by kernel_rfl) (by kernel_rfl) (fun _ _ _ h => h) (Or.inl ⟨by rfl, ?yy39⟩) (by assumption) ?yr39
      case yy39 => (intro w hSw; (try dsimp only at hSw); go_simp; try with_reducible rfl)
      (try simp only [Act.put, List.getElem_toArray, List.getElem_cons_zero, List.getElem_cons_succ, List.setIfInBounds_toArray, List.set_cons_zero, List.set_cons_succ])
      refine wpAnyH_take (i := 40) (v := ?yv40) rfl (by kernel_rfl) (by kernel_rfl) (by kernel_rfl) (fun _ _ _ h => h) (Or.inl ⟨by rfl, ?yy40⟩) (by assumption) ?yr40
      case yy40 => (intro w hSw; (try dsimp only at hSw); go_simp; try with_reducible rfl)
      (try simp only [Act.put, List.getElem_toArray, List.getElem_cons_zero, List.getElem_cons_succ, List.setIfInBounds_toArray, List.set_cons_zero, List.set_cons_succ])
      refine wpAnyH_take (i := 41) (v := ?yv41) rfl (by kernel_rfl) (by kernel_rfl) (by kernel_rfl) (fun _ _ _ h => h) (Or.inl ⟨by rfl, ?yy41⟩) (by assumption) ?yr41
      case yy41 => (intro w hSw; (try dsimp only at hSw); go_simp; try with_reducible rfl)
      (try simp only [Act.put, List.getElem_toArray, List.getElem_cons_zero, List.getElem_cons_succ, List.setIfInBounds_toArray, List.set_cons_zero, List.set_cons_succ])
      refine wpAnyH_ready (rs := [42]) (by kernel_rfl) (by simp) (AllReadyH.cons rfl (fun K hK => ?_) AllReadyH.nil)
      go_simp
      refine (d7 _ (by assumption)).mono ?_
      rintro e w' ⟨rfl, hS⟩
      go_wp2_with fail
      refine hK.out _ _ hS (fun hHeld => ?_)
      clear hK K
      (try simp only [Act.put, List.getElem_toArray, List.getElem_cons_zero, List.getElem_cons_succ, List.setIfInBounds_toArray, List.set_cons_zero, List.set_cons_succ])
      refine wpAnyH_take (i := 43) (v := ?yv43) rfl (by kernel_rfl) (by kernel_rfl) (by kernel_rfl) (fun _ _ _ h => h) (Or.inl ⟨by rfl, ?yy43⟩) (by assumption) ?yr43
      case yy43 => (intro w hSw; (try dsimp only at hSw); go_simp; try with_reducible rfl)
      (try simp only [Act.put, List.getElem_toArray, List.getElem_cons_zero, List.getElem_cons_succ, List.setIfInBounds_toArray, List.set_cons_zero, List.set_cons_succ])
      refine wpAnyH_take (i := 44) (v := ?yv44) rfl (by kernel_rfl) (by kernel_rfl) (by kernel_rfl) (fun _ _ _ h => h) (Or.inl ⟨by rfl, ?yy44⟩) (by assumption) ?yr44
      case yy44 => (intro w hSw; (try dsimp only at hSw); go_simp; try with_reducible rfl)
      (try simp only [Act.put, List.getElem_toArray, List.getElem_cons_zero, List.getElem_cons_succ, List.setIfInBounds_toArray, List.set_cons_zero, List.set_cons_succ])
      refine wpAnyH_done (by kernel_rfl) ?_ _
      go_wp2_with fail
      go_ret
      exact ⟨rfl, hS.2⟩

set_option maxRecDepth 20000 in
set_option linter.unusedSimpArgs false in
set_option maxHeartbeats 4000000 in
theorem of_high (p : Option Addr) (n c : Nat) (ls : List Int) (v : Int) (w : World) (hT : Tab w) (hr : Rd .i64 w p n c ls) (hn : n ≤ 500) (hhas : hasN (ofN ls) v = false) (hv1 : decide (0 ≤ v) = true) (hv2 : decide (v < 64) = false) :
    Calls Tryd.prog 3 #[.slice p n c, .int .i64 v] w fun e w' => e = .returned (.bool true) ∧ Below w.heap.size w w' := by
  have hd1 : decide ((500 : Int) < (n : Int)) = false := decide_eq_false (by omega)
  have hd2 : decide (500 < n) = false := decide_eq_false (by omega)
  have hl := hr.len
  have hz : ∀ x : Nat, (bools (List.replicate 64 false)).size = (bools (bitL x)).size := fun x => by rw [bools_size, bools_size, bitL_len]; rfl
  go_enter Tryd.func3, Tryd.ntmps3
  go_wp2_with fail
  go_loopw [15] (fun i wr => ∃ k : Nat, k ≤ n ∧ i = .int .i64 k ∧ Arr wr w.heap.size (bitL (ofN (ls.take k))) ∧ Below w.heap.size w wr) (fun i _ => n - (intOf i).toNat)
  case atStart => exact ⟨0, Nat.zero_le _, rfl, by rw [show ofN (ls.take 0) = 0 from rfl, bitL_zero]; exact heap_alloc_new _ _, below_alloc _ _⟩
  case round =>
    obtain ⟨k, hk, rfl, hA, hb⟩ := hrel
    by_cases h : k < n
    · obtain ⟨b, o, rfl, hc⟩ := (hr.below hb).cells (by omega)
      have h1 := hc k h
      have hS : Hid (ofN (ls.take (k + 1)) = ofN (ls.take k) ||| bitN (ls.getD k 0)) := ofN_snoc (by omega)
      have hi := info_set (bitL (ofN (ls.take k))) (bitL_len _)
      have hi2 := info_set (bitL (ofN (ls.take (k + 1)))) (bitL_len _)
      have cP := fun W => put_any (bitL (ofN (ls.take k))) (ls.getD k 0) true W (bitL_len _)
      rw [putB_true, ← hS.out] at cP
      have hsz : (bools (bitL (ofN (ls.take k)))).size = (bools (bitL (ofN (ls.take (k + 1))))).size := by rw [bools_size, bools_size, bitL_len, bitL_len]
      clear hc hr hS hz
      generalize ls.getD k 0 = z at h1 cP
      generalize hX2 : bitL (ofN (ls.take (k + 1))) = X2 at cP hsz hi2
      have HX2 : Hid (bitL (ofN (ls.take (k + 1))) = X2) := hX2
      generalize bitL (ofN (ls.take k)) = X1 at hA hi cP hsz
      clear hX2
      go_wp2_with (refine wpList_load_row rfl 25 _ rfl w.heap.size rfl _ _ _ _ hA Tryd.underlying25 rfl hi ?_)
      refine (cP _).mono ?_
      rintro e w2 ⟨rfl, hb2⟩
      have hA2 := hA.below hb2
      have hA3 := hA2.setRow X2
      have hb3 := (hb.trans (hb2.mono hb.size)).trans (below_setRow w2 w.heap.size (bools X2) (Nat.le_refl _))
      clear hA hb hb2 cP
      go_wp2_with (refine wpList_store_row rfl 25 _ _ rfl w.heap.size _ rfl rfl _ _ hA2 hi2 hsz (bools_one _) ?_)
      generalize w2.setRow w.heap.size (bools X2) = w3 at hA3 hb3 ⊢
      go_roundw
      case rel => exact ⟨k + 1, by omega, by go_num, by rw [HX2.out]; exact hA3, hb3⟩
      case measure => simp [intOf]; omega
    · obtain rfl : k = n := by omega
      have e1 : ls.take k = ls := List.take_of_length_le (by omega)
      rw [e1] at hA
      have hr2 := hr.below hb
      have cO := of_any p k c ls wr hr2 (by omega)
      have hXlt := ofN_lt ls
      have d10 : ∀ W, Keep w [(w.heap.size, (bitL (ofN ls)).map Value.bool)] W → Calls Tryd.prog 10 #[.agg ((bitL (ofN ls)).map Value.bool).toArray] W fun e w' => e = .returned (.int .u64 (ofN ls)) ∧ Keep w [(w.heap.size, (bitL (ofN ls)).map Value.bool)] w' := fun W hS => keep_below hS (by have h := word_any (bitL (ofN ls)) W (bitL_len _); rw [word_bits _ hXlt] at h; exact h)
      have d11 : ∀ W, Keep w [(w.heap.size, (bitL (ofN ls)).map Value.bool)] W → Calls Tryd.prog 11 #[.int .u64 (ofN ls), .int .i64 v] W fun e w' => e = .returned (.bool false) ∧ Keep w [(w.heap.size, (bitL (ofN ls)).map Value.bool)] w' := fun W hS => keep_same hS (by have h := has_any (ofN ls) v W hXlt; rw [hhas] at h; exact h)
      have d12 : ∀ W, Keep w [(w.heap.size, (bitL (ofN ls)).map Value.bool)] W → Calls Tryd.prog 12 #[.slice p k c, .int .i64 v] W fun e w' => e = .returned (.bool (ls.contains v)) ∧ Keep w [(w.heap.size, (bitL (ofN ls)).map Value.bool)] w' := fun W hS => keep_below hS (contains_any p k c ls v W (hr.below hS.2) (by omega))
      have d13 : ∀ W, Keep w [(w.heap.size, (bitL (ofN ls)).map Value.bool)] W → Calls Tryd.prog 13 #[.int .u64 (ofN ls), .int .i64 v] W fun e w' => e = .returned (.int .u64 ((ofN ls ||| bitN v : Nat) : Int)) ∧ Keep w [(w.heap.size, (bitL (ofN ls)).map Value.bool)] w' := fun W hS => keep_same hS (with_any (ofN ls) v W hXlt)
      have d14 : ∀ W, Keep w [(w.heap.size, (bitL (ofN ls)).map Value.bool)] W → Calls Tryd.prog 14 #[.int .u64 (ofN ls), .int .i64 v] W fun e w' => e = .returned (.int .u64 ((ofN ls &&& (18446744073709551615 - bitN v) : Nat) : Int)) ∧ Keep w [(w.heap.size, (bitL (ofN ls)).map Value.bool)] w' := fun W hS => keep_same hS (without_any (ofN ls) v W hXlt)
      have d8t : ∀ W, Keep w [(w.heap.size, (bitL (ofN ls)).map Value.bool)] W → Calls Tryd.prog 8 #[.agg ((bitL (ofN ls)).map Value.bool).toArray, .int .i64 v, .bool true] W fun e w' => e = .returned (.agg (bools (bitL (ofN ls ||| bitN v)))) ∧ Keep w [(w.heap.size, (bitL (ofN ls)).map Value.bool)] w' := fun W hS => keep_below hS (by have h := put_any (bitL (ofN ls)) v true W (bitL_len _); rw [putB_true] at h; exact h)
      have d8f : ∀ W, Keep w [(w.heap.size, (bitL (ofN ls)).map Value.bool)] W → Calls Tryd.prog 8 #[.agg ((bitL (ofN ls)).map Value.bool).toArray, .int .i64 v, .bool false] W fun e w' => e = .returned (.agg (bools (bitL (ofN ls &&& (18446744073709551615 - bitN v))))) ∧ Keep w [(w.heap.size, (bitL (ofN ls)).map Value.bool)] w' := fun W hS => keep_below hS (by have h := put_any (bitL (ofN ls)) v false W (bitL_len _); rw [putB_false _ _ hXlt] at h; exact h)
      have d10t : ∀ W, Keep w [(w.heap.size, (bitL (ofN ls)).map Value.bool)] W → Calls Tryd.prog 10 #[.agg (bools (bitL (ofN ls ||| bitN v)))] W fun e w' => e = .returned (.int .u64 ((ofN ls ||| bitN v : Nat) : Int)) ∧ Keep w [(w.heap.size, (bitL (ofN ls)).map Value.bool)] w' := fun W hS => keep_below hS (by have h := word_any (bitL (ofN ls ||| bitN v)) W (bitL_len _); rw [word_bits _ (or_lt64 hXlt (bitN_lt v))] at h; exact h)
      have d10f : ∀ W, Keep w [(w.heap.size, (bitL (ofN ls)).map Value.bool)] W → Calls Tryd.prog 10 #[.agg (bools (bitL (ofN ls &&& (18446744073709551615 - bitN v))))] W fun e w' => e = .returned (.int .u64 ((ofN ls &&& (18446744073709551615 - bitN v) : Nat) : Int)) ∧ Keep w [(w.heap.size, (bitL (ofN ls)).map Value.bool)] w' := fun W hS => keep_below hS (by have h := word_any (bitL (ofN ls &&& (18446744073709551615 - bitN v))) W (bitL_len _); rw [word_bits _ (and_lt64 hXlt)] at h; exact h)
      have d7 : ∀ W, Keep w [(w.heap.size, (bitL (ofN ls)).map Value.bool)] W → Calls Tryd.prog 7 #[] W fun e w' => e = .returned (.bool true) ∧ Keep w [(w.heap.size, (bitL (ofN ls)).map Value.bool)] w' := fun W hS => keep_below hS (awake_any W (hT.below hS.2))
      have hK0 : Keep w [(w.heap.size, (bitL (ofN ls)).map Value.bool)] wr := ⟨fun a ha => by rw [List.mem_singleton] at ha; subst ha; exact hA.range, hb⟩
      have hu := Tryd.underlying25
      have hi2 : (Tryd.prog.info? 25).map (·.size) = some ((bitL (ofN ls)).map Value.bool).length := by rw [info_set (bitL (ofN ls)) (bitL_len _), bools_size, List.length_map]
      clear hr hr2 hA hb hz hhas
      generalize bools (bitL (ofN ls ||| bitN v)) = A2 at d8t d10t
      generalize ofN ls ||| bitN v = Y2 at d8t d10t d13
      generalize bools (bitL (ofN ls &&& (18446744073709551615 - bitN v))) = A3 at d8f d10f
      generalize ofN ls &&& (18446744073709551615 - bitN v) = Y3 at d8f d10f d14
      generalize (bitL (ofN ls)).map Value.bool = cs at d7 d8t d8f d10 d10t d10f d11 d12 d13 d14 hK0 hi2
      generalize ofN ls = X at cO d10 d11 d13 d14 hXlt
      generalize ls.contains v = hv at d11 d12
      go_wp2_with fail
      refine cO.mono ?_
      rintro e w2 ⟨rfl, hw⟩
      subst hw
      clear cO
      go_wp2_with fail
      generalize w.heap.size = g at d7 d8t d8f d10 d10t d10f d11 d12 d13 d14 hK0 ⊢
      refine wp_region_held_drew (S := Keep w [(g, cs)]) (by kernel_rfl) hK0.drew (fun hHeld => ?_)
      refine wpAnyH_take (i := 1) (v := _) rfl (by kernel_rfl) (by kernel_rfl) (by kernel_rfl) (fun _ _ _ h => h) (yieldsIf_load_mid (by rfl) _ _ rfl _ _ rfl _ _ (fun _ h => h.at 0 rfl) hu rfl hi2) (by assumption) ?_
      (try simp only [Act.put, List.getElem_toArray, List.getElem_cons_zero, List.getElem_cons_succ, List.setIfInBounds_toArray, List.set_cons_zero, List.set_cons_succ])
      refine wpAnyH_take (i := 0) (v := ?yv0) rfl (by kernel_rfl) (by kernel_rfl) (by kernel_rfl) (fun _ _ _ h => h) (Or.inl ⟨by rfl, ?yy0⟩) (by assumption) ?yr0
      case yy0 => (intro w hSw; (try dsimp only at hSw); go_simp; try with_reducible rfl)
      (try simp only [Act.put, List.getElem_toArray, List.getElem_cons_zero, List.getElem_cons_succ, List.setIfInBounds_toArray, List.set_cons_zero, List.set_cons_succ])
      refine wpAnyH_ready (rs := [2]) (by kernel_rfl) (by simp) (AllReadyH.cons rfl (fun K hK => ?_) AllReadyH.nil)
      go_simp
      refine (d10 _ (by assumption)).mono ?_
      rintro e w' ⟨rfl, hS⟩
      go_wp2_with fail
      refine hK.out _ _ hS (fun hHeld => ?_)
      clear hK K
      (try simp only [Act.put, List.getElem_toArray, List.getElem_cons_zero, List.getElem_cons_succ, List.setIfInBounds_toArray, List.set_cons_zero, List.set_cons_succ])
      refine wpAnyH_take (i := 3) (v := ?yv3) rfl (by kernel_rfl) (by kernel_rfl) (by kernel_rfl) (fun _ _ _ h => h) (Or.inl ⟨by rfl, ?yy3⟩) (by assumption) ?yr3
      case yy3 => (intro w hSw; (try dsimp only at hSw); go_simp; try with_reducible rfl)
      (try simp only [Act.put, List.getElem_toArray, List.getElem_cons_zero, List.getElem_cons_succ, List.setIfInBounds_toArray, List.set_cons_zero, List.set_cons_succ])
      refine wpAnyH_take (i := 4) (v := ?yv4) rfl (by kernel_rfl) (by kernel_rfl) (by kernel_rfl) (fun _ _ _ h => h) (Or.inl ⟨by rfl, ?yy4⟩) (by assumption) ?yr4
      case yy4 => (intro w hSw; (try dsimp only at hSw); go_simp; try with_reducible rfl)
      (try simp only [Act.put, List.getElem_toArray, List.getElem_cons_zero, List.getElem_cons_succ, List.setIfInBounds_toArray, List.set_cons_zero, List.set_cons_succ])
      refine wpAnyH_take (i := 5) (v := ?yv5) rfl (by kernel_rfl) (by kernel_rfl) (by kernel_rfl) (fun _ _ _ h => h) (Or.inl ⟨by rfl, ?yy5⟩) (by assumption) ?yr5
      case yy5 => (intro w hSw; (try dsimp only at hSw); go_simp; try with_reducible rfl)
      (try simp only [Act.put, List.getElem_toArray, List.getElem_cons_zero, List.getElem_cons_succ, List.setIfInBounds_toArray, List.set_cons_zero, List.set_cons_succ])
      refine wpAnyH_take (i := 6) (v := ?yv6) rfl (by kernel_rfl) (by kernel_rfl) (by kernel_rfl) (fun _ _ _ h => h) (Or.inl ⟨by rfl, ?yy6⟩) (by assumption) ?yr6
      case yy6 => (intro w hSw; (try dsimp only at hSw); go_simp; try with_reducible rfl)
      (try simp only [Act.put, List.getElem_toArray, List.getElem_cons_zero, List.getElem_cons_succ, List.setIfInBounds_toArray, List.set_cons_zero, List.set_cons_succ])
      refine wpAnyH_take (i := 8) (v := ?yv8) rfl (by kernel_rfl) (by kernel_rfl) (by kernel_rfl) (fun _ _ _ h => h) (Or.inl ⟨by rfl, ?yy8⟩) (by assumption) ?yr8
      case yy8 => (intro w hSw; (try dsimp only at hSw); go_simp; try with_reducible rfl)
      (try simp only [Act.put, List.getElem_toArray, List.getElem_cons_zero, List.getElem_cons_succ, List.setIfInBounds_toArray, List.set_cons_zero, List.set_cons_succ])
      refine wpAnyH_take (i := 9) (v := ?yv9) rfl (by kernel_rfl) (by kernel_rfl) (by kernel_rfl) (fun _ _ _ h => h) (Or.inl ⟨by rfl, ?yy9⟩) (by assumption) ?yr9
      case yy9 => (intro w hSw; (try dsimp only at hSw); go_simp; try with_reducible rfl)
      (try simp only [Act.put, List.getElem_toArray, List.getElem_cons_zero, List.getElem_cons_succ, List.setIfInBounds_toArray, List.set_cons_zero, List.set_cons_succ])
      refine wpAnyH_ready (rs := [7]) (by kernel_rfl) (by simp) (AllReadyH.cons rfl (fun K hK => ?_) AllReadyH.nil)
      go_simp
      refine (d11 _ (by assumption)).mono ?_
      rintro e w' ⟨rfl, hS⟩
      go_wp2_with fail
      refine hK.out _ _ hS (fun hHeld => ?_)
      clear hK K
      (try simp only [Act.put, List.getElem_toArray, List.getElem_cons_zero, List.getElem_cons_succ, List.setIfInBounds_toArray, List.set_cons_zero, List.set_cons_succ])
      refine wpAnyH_take (i := 10) (v := ?yv10) rfl (by kernel_rfl) (by kernel_rfl) (by kernel_rfl) (fun _ _ _ h => h) (Or.inl ⟨by rfl, ?yy10⟩) (by assumption) ?yr10
      case yy10 => (intro w hSw; (try dsimp only at hSw); go_simp; try with_reducible rfl)
      (try simp only [Act.put, List.getElem_toArray, List.getElem_cons_zero, List.getElem_cons_succ, List.setIfInBounds_toArray, List.set_cons_zero, List.set_cons_succ])
      refine wpAnyH_take (i := 11) (v := ?yv11) rfl (by kernel_rfl) (by kernel_rfl) (by kernel_rfl) (fun _ _ _ h => h) (Or.inl ⟨by rfl, ?yy11⟩) (by assumption) ?yr11
      case yy11 => (intro w hSw; (try dsimp only at hSw); go_simp; try with_reducible rfl)
      (try simp only [Act.put, List.getElem_toArray, List.getElem_cons_zero, List.getElem_cons_succ, List.setIfInBounds_toArray, List.set_cons_zero, List.set_cons_succ])
      refine wpAnyH_take (i := 12) (v := ?yv12) rfl (by kernel_rfl) (by kernel_rfl) (by kernel_rfl) (fun _ _ _ h => h) (Or.inl ⟨by rfl, ?yy12⟩) (by assumption) ?yr12
      case yy12 => (intro w hSw; (try dsimp only at hSw); go_simp; try with_reducible rfl)
      (try simp only [Act.put, List.getElem_toArray, List.getElem_cons_zero, List.getElem_cons_succ, List.setIfInBounds_toArray, List.set_cons_zero, List.set_cons_succ])
      refine wpAnyH_take (i := 13) (v := ?yv13) rfl (by kernel_rfl) (by kernel_rfl) (by kernel_rfl) (fun _ _ _ h => h) (Or.inl ⟨by rfl, ?yy13⟩) (by assumption) ?yr13
      case yy13 => (intro w hSw; (try dsimp only at hSw); go_simp; try with_reducible rfl)
      (try simp only [Act.put, List.getElem_toArray, List.getElem_cons_zero, List.getElem_cons_succ, List.setIfInBounds_toArray, List.set_cons_zero, List.set_cons_succ])
      refine wpAnyH_take (i := 14) (v := ?yv14) rfl (by kernel_rfl) (by kernel_rfl) (by kernel_rfl) (fun _ _ _ h => h) (Or.inl ⟨by rfl, ?yy14⟩) (by assumption) ?yr14
      case yy14 => (intro w hSw; (try dsimp only at hSw); go_simp; try with_reducible rfl)
      (try simp only [Act.put, List.getElem_toArray, List.getElem_cons_zero, List.getElem_cons_succ, List.setIfInBounds_toArray, List.set_cons_zero, List.set_cons_succ])
      refine wpAnyH_take (i := 15) (v := undef) rfl (by kernel_rfl) (by kernel_rfl) (by kernel_rfl) (fun _ _ _ h => h) (Or.inr ⟨by rfl, rfl⟩) (by assumption) ?_
      (try simp only [Act.put, List.getElem_toArray, List.getElem_cons_zero, List.getElem_cons_succ, List.setIfInBounds_toArray, List.set_cons_zero, List.set_cons_succ])
      refine wpAnyH_take (i := 16) (v := undef) rfl (by kernel_rfl) (by kernel_rfl) (by kernel_rfl) (fun _ _ _ h => h) (Or.inr ⟨by rfl, rfl⟩) (by assumption) ?_
      (try simp only [Act.put, List.getElem_toArray, List.getElem_cons_zero, List.getElem_cons_succ, List.setIfInBounds_toArray, List.set_cons_zero, List.set_cons_succ])
      refine wpAnyH_take (i := 17) (v := undef) rfl (by kernel_rfl) (by kernel_rfl) (by kernel_rfl) (fun _ _ _ h => h) (Or.inr ⟨by rfl, rfl⟩) (by assumption) ?_
      (try simp only [Act.put, List.getElem_toArray, List.getElem_cons_zero, List.getElem_cons_succ, List.setIfInBounds_toArray, List.set_cons_zero, List.set_cons_succ])
      refine wpAnyH_take (i := 18) (v := ?yv18) rfl (by kernel_rfl) (by kernel_rfl) (by kernel_rfl) (fun _ _ _ h => h) (Or.inl ⟨by rfl, ?yy18⟩) (by assumption) ?yr18
      case yy18 => (intro w hSw; (try dsimp only at hSw); go_simp; try with_reducible rfl)
      (try simp only [Act.put, List.getElem_toArray, List.getElem_cons_zero, List.getElem_cons_succ, List.setIfInBounds_toArray, List.set_cons_zero, List.set_cons_succ])
      refine wpAnyH_take (i := 19) (v := ?yv19) rfl (by kernel_rfl) (by kernel_rfl) (by kernel_rfl) (fun _ _ _ h => h) (Or.inl ⟨by rfl, ?yy19⟩) (by assumption) ?yr19
      case yy19 => (intro w hSw; (try dsimp only at hSw); go_simp; try with_reducible rfl)
      (try simp only [Act.put, List.getElem_toArray, List.getElem_cons_zero, List.getElem_cons_succ, List.setIfInBounds_toArray, List.set_cons_zero, List.set_cons_succ])
      refine wpAnyH_take (i := 20) (v := ?yv20) rfl (by kernel_rfl) (by kernel_rfl) (by kernel_rfl) (fun _ _ _ h => h) (Or.inl ⟨by rfl, ?yy20⟩) (by assumption) ?yr20
      case yy20 => (intro w hSw; (try dsimp only at hSw); go_simp; try with_reducible rfl)
      (try simp only [Act.put, List.getElem_toArray, List.getElem_cons_zero, List.getElem_cons_succ, List.setIfInBounds_toArray, List.set_cons_zero, List.set_cons_succ])
      refine wpAnyH_take (i := 21) (v := ?yv21) rfl (by kernel_rfl) (by kernel_rfl) (by kernel_rfl) (fun _ _ _ h => h) (Or.inl ⟨by rfl, ?yy21⟩) (by assumption) ?yr21
      case yy21 => (intro w hSw; (try dsimp only at hSw); go_simp; try with_reducible rfl)
      (try simp only [Act.put, List.getElem_toArray, List.getElem_cons_zero, List.getElem_cons_succ, List.setIfInBounds_toArray, List.set_cons_zero, List.set_cons_succ])
      refine wpAnyH_take (i := 25) (v := _) rfl (by kernel_rfl) (by kernel_rfl) (by kernel_rfl) (fun _ _ _ h => h) (yieldsIf_load_mid (by rfl) _ _ rfl _ _ rfl _ _ (fun _ h => h.at 0 rfl) hu rfl hi2) (by assumption) ?_
      (try simp only [Act.put, List.getElem_toArray, List.getElem_cons_zero, List.getElem_cons_succ, List.setIfInBounds_toArray, List.set_cons_zero, List.set_cons_succ])
      refine wpAnyH_take (i := 22) (v := ?yv22) rfl (by kernel_rfl) (by kernel_rfl) (by kernel_rfl) (fun _ _ _ h => h) (Or.inl ⟨by rfl, ?yy22⟩) (by assumption) ?yr22
      case yy22 => (intro w hSw; (try dsimp only at hSw); go_simp; try with_reducible rfl)
      (try simp only [Act.put, List.getElem_toArray, List.getElem_cons_zero, List.getElem_cons_succ, List.setIfInBounds_toArray, List.set_cons_zero, List.set_cons_succ])
      refine wpAnyH_take (i := 23) (v := ?yv23) rfl (by kernel_rfl) (by kernel_rfl) (by kernel_rfl) (fun _ _ _ h => h) (Or.inl ⟨by rfl, ?yy23⟩) (by assumption) ?yr23
      case yy23 => (intro w hSw; (try dsimp only at hSw); go_simp; try with_reducible rfl)
      (try simp only [Act.put, List.getElem_toArray, List.getElem_cons_zero, List.getElem_cons_succ, List.setIfInBounds_toArray, List.set_cons_zero, List.set_cons_succ])
      refine wpAnyH_take (i := 26) (v := ?yv26) rfl (by kernel_rfl) (by kernel_rfl) (by kernel_rfl) (fun _ _ _ h => h) (Or.inl ⟨by rfl, ?yy26⟩) (by assumption) ?yr26
      case yy26 => (intro w hSw; (try dsimp only at hSw); go_simp; try with_reducible rfl)
      (try simp only [Act.put, List.getElem_toArray, List.getElem_cons_zero, List.getElem_cons_succ, List.setIfInBounds_toArray, List.set_cons_zero, List.set_cons_succ])
      refine wpAnyH_ready (rs := [24]) (by kernel_rfl) (by simp) (AllReadyH.cons rfl (fun K hK => ?_) AllReadyH.nil)
      go_simp
      refine (d13 _ (by assumption)).mono ?_
      rintro e w' ⟨rfl, hS⟩
      go_wp2_with fail
      refine hK.out _ _ hS (fun hHeld => ?_)
      clear hK K
      (try simp only [Act.put, List.getElem_toArray, List.getElem_cons_zero, List.getElem_cons_succ, List.setIfInBounds_toArray, List.set_cons_zero, List.set_cons_succ])
      refine wpAnyH_ready (rs := [27]) (by kernel_rfl) (by simp) (AllReadyH.cons rfl (fun K hK => ?_) AllReadyH.nil)
      go_simp
      refine (d8t _ (by assumption)).mono ?_
      rintro e w' ⟨rfl, hS⟩
      go_wp2_with fail
      refine hK.out _ _ hS (fun hHeld => ?_)
      clear hK K
      (try simp only [Act.put, List.getElem_toArray, List.getElem_cons_zero, List.getElem_cons_succ, List.setIfInBounds_toArray, List.set_cons_zero, List.set_cons_succ])
      refine wpAnyH_ready (rs := [28]) (by kernel_rfl) (by simp) (AllReadyH.cons rfl (fun K hK => ?_) AllReadyH.nil)
      go_simp
      refine (d10t _ (by assumption)).mono ?_
      rintro e w' ⟨rfl, hS⟩
      go_wp2_with fail
      refine hK.out _ _ hS (fun hHeld => ?_)
      clear hK K
      (try simp only [Act.put, List.getElem_toArray, List.getElem_cons_zero, List.getElem_cons_succ, List.setIfInBounds_toArray, List.set_cons_zero, List.set_cons_succ])
      refine wpAnyH_take (i := 29) (v := ?yv29) rfl (by kernel_rfl) (by kernel_rfl) (by kernel_rfl) (fun _ _ _ h => h) (Or.inl ⟨by rfl, ?yy29⟩) (by assumption) ?yr29
      case yy29 => (intro w hSw; (try dsimp only at hSw); go_simp; try with_reducible rfl)
      (try simp only [Act.put, List.getElem_toArray, List.getElem_cons_zero, List.getElem_cons_succ, List.setIfInBounds_toArray, List.set_cons_zero, List.set_cons_succ])
      refine wpAnyH_take (i := 30) (v := ?yv30) rfl (by kernel_rfl) (by kernel_rfl) (by kernel_rfl) (fun _ _ _ h => h) (Or.inl ⟨by rfl, ?yy30⟩) (by assumption) ?yr30
      case yy30 => (intro w hSw; (try dsimp only at hSw); go_simp; try with_reducible rfl)
      (try simp only [Act.put, List.getElem_toArray, List.getElem_cons_zero, List.getElem_cons_succ, List.setIfInBounds_toArray, List.set_cons_zero, List.set_cons_succ])
      refine wpAnyH_take (i := 31) (v := ?yv31) rfl (by kernel_rfl) (by kernel_rfl) (by kernel_rfl) (fun _ _ _ h => h) (Or.inl ⟨by rfl, ?yy31⟩) (by assumption) ?yr31
      case yy31 => (intro w hSw; (try dsimp only at hSw); go_simp; try with_reducible rfl)
      (try simp only [Act.put, List.getElem_toArray, List.getElem_cons_zero, List.getElem_cons_succ, List.setIfInBounds_toArray, List.set_cons_zero, List.set_cons_succ])
      refine wpAnyH_take (i := 35) (v := _) rfl (by kernel_rfl) (by kernel_rfl) (by kernel_rfl) (fun _ _ _ h => h) (yieldsIf_load_mid (by rfl) _ _ rfl _ _ rfl _ _ (fun _ h => h.at 0 rfl) hu rfl hi2) (by assumption) ?_
      (try simp only [Act.put, List.getElem_toArray, List.getElem_cons_zero, List.getElem_cons_succ, List.setIfInBounds_toArray, List.set_cons_zero, List.set_cons_succ])
      refine wpAnyH_take (i := 32) (v := ?yv32) rfl (by kernel_rfl) (by kernel_rfl) (by kernel_rfl) (fun _ _ _ h => h) (Or.inl ⟨by rfl, ?yy32⟩) (by assumption) ?yr32
      case yy32 => (intro w hSw; (try dsimp only at hSw); go_simp; try with_reducible rfl)
      (try simp only [Act.put, List.getElem_toArray, List.getElem_cons_zero, List.getElem_cons_succ, List.setIfInBounds_toArray, List.set_cons_zero, List.set_cons_succ])
      refine wpAnyH_take (i := 33) (v := ?yv33) rfl (by kernel_rfl) (by kernel_rfl) (by kernel_rfl) (fun _ _ _ h => h) (Or.inl ⟨by rfl, ?yy33⟩) (by assumption) ?yr33
      case yy33 => (intro w hSw; (try dsimp only at hSw); go_simp; try with_reducible rfl)
      (try simp only [Act.put, List.getElem_toArray, List.getElem_cons_zero, List.getElem_cons_succ, List.setIfInBounds_toArray, List.set_cons_zero, List.set_cons_succ])
      refine wpAnyH_take (i := 36) (v := ?yv36) rfl (by kernel_rfl) (by kernel_rfl) (by kernel_rfl) (fun _ _ _ h => h) (Or.inl ⟨by rfl, ?yy36⟩) (by assumption) ?yr36
      case yy36 => (intro w hSw; (try dsimp only at hSw); go_simp; try with_reducible rfl)
      (try simp only [Act.put, List.getElem_toArray, List.getElem_cons_zero, List.getElem_cons_succ, List.setIfInBounds_toArray, List.set_cons_zero, List.set_cons_succ])
      refine wpAnyH_ready (rs := [34]) (by kernel_rfl) (by simp) (AllReadyH.cons rfl (fun K hK => ?_) AllReadyH.nil)
      go_simp
      refine (d14 _ (by assumption)).mono ?_
      rintro e w' ⟨rfl, hS⟩
      go_wp2_with fail
      refine hK.out _ _ hS (fun hHeld => ?_)
      clear hK K
      (try simp only [Act.put, List.getElem_toArray, List.getElem_cons_zero, List.getElem_cons_succ, List.setIfInBounds_toArray, List.set_cons_zero, List.set_cons_succ])
      refine wpAnyH_ready (rs := [37]) (by kernel_rfl) (by simp) (AllReadyH.cons rfl (fun K hK => ?_) AllReadyH.nil)
      go_simp
      refine (d8f _ (by assumption)).mono ?_
      rintro e w' ⟨rfl, hS⟩
      go_wp2_with fail
      refine hK.out _ _ hS (fun hHeld => ?_)
      clear hK K
      (try simp only [Act.put, List.getElem_toArray, List.getElem_cons_zero, List.getElem_cons_succ, List.setIfInBounds_toArray, List.set_cons_zero, List.set_cons_succ])
      refine wpAnyH_ready (rs := [38]) (by kernel_rfl) (by simp) (AllReadyH.cons rfl (fun K hK => ?_) AllReadyH.nil)
      go_simp
      refine (d10f _ (by assumption)).mono ?_
      rintro e w' ⟨rfl, hS⟩
      go_wp2_with fail
      refine hK.out _ _ hS (fun hHeld => ?_)
      clear hK K
      (try simp only [Act.put, List.getElem_toArray, List.getElem_cons_zero, List.getElem_cons_succ, List.setIfInBounds_toArray, List.set_cons_zero, List.set_cons_succ])
      refine wpAnyH_take (i := 39) (v := ?yv39) rfl (by kernel_rfl) (by kernel_rfl) (by kernel_rfl) (fun _ _ _ h => h) (Or.inl ⟨by rfl, ?yy39⟩) (by assumption) ?yr39
      case yy39 => (intro w hSw; (try dsimp only at hSw); go_simp; try with_reducible rfl)
      (try simp only [Act.put, List.getElem_toArray, List.getElem_cons_zero, List.getElem_cons_succ, List.setIfInBounds_toArray, List.set_cons_zero, List.set_cons_succ])
      refine wpAnyH_take (i := 40) (v := ?yv40) rfl (by kernel_rfl) (by kernel_rfl) (by kernel_rfl) (fun _ _ _ h => h) (Or.inl ⟨by rfl, ?yy40⟩) (by assumption) ?yr40
      case yy40 => (intro w hSw; (try dsimp only at hSw); go_simp; try with_reducible rfl)
      (try simp only [Act.put, List.getElem_toArray, List.getElem_cons_zero, List.getElem_cons_succ, List.setIfInBounds_toArray, List.set_cons_zero, List.set_cons_succ])
      refine wpAnyH_take (i := 41) (v := ?yv41) rfl (by kernel_rfl) (by kernel_rfl) (by kernel_rfl) (fun _ _ _ h => h) (Or.inl ⟨by rfl, ?yy41⟩) (by assumption) ?yr41
      case yy41 => (intro w hSw; (try dsimp only at hSw); go_simp; try with_reducible rfl)
      (try simp only [Act.put, List.getElem_toArray, List.getElem_cons_zero, List.getElem_cons_succ, List.setIfInBounds_toArray, List.set_cons_zero, List.set_cons_succ])
      refine wpAnyH_ready (rs := [42]) (by kernel_rfl) (by simp) (AllReadyH.cons rfl (fun K hK => ?_) AllReadyH.nil)
      go_simp
      refine (d7 _ (by assumption)).mono ?_
      rintro e w' ⟨rfl, hS⟩
      go_wp2_with fail
      refine hK.out _ _ hS (fun hHeld => ?_)
      clear hK K
      (try simp only [Act.put, List.getElem_toArray, List.getElem_cons_zero, List.getElem_cons_succ, List.setIfInBounds_toArray, List.set_cons_zero, List.set_cons_succ])
      refine wpAnyH_take (i := 43) (v := ?yv43) rfl (by kernel_rfl) (by kernel_rfl) (by kernel_rfl) (fun _ _ _ h => h) (Or.inl ⟨by rfl, ?yy43⟩) (by assumption) ?yr43
      case yy43 => (intro w hSw; (try dsimp only at hSw); go_simp; try with_reducible rfl)
      (try simp only [Act.put, List.getElem_toArray, List.getElem_cons_zero, List.getElem_cons_succ, List.setIfInBounds_toArray, List.set_cons_zero, List.set_cons_succ])
      refine wpAnyH_take (i := 44) (v := ?yv44) rfl (by kernel_rfl) (by kernel_rfl) (by kernel_rfl) (fun _ _ _ h => h) (Or.inl ⟨by rfl, ?yy44⟩) (by assumption) ?yr44
      case yy44 => (intro w hSw; (try dsimp only at hSw); go_simp; try with_reducible rfl)
      (try simp only [Act.put, List.getElem_toArray, List.getElem_cons_zero, List.getElem_cons_succ, List.setIfInBounds_toArray, List.set_cons_zero, List.set_cons_succ])
      refine wpAnyH_done (by kernel_rfl) ?_ _
      go_wp2_with fail
      go_ret
      exact ⟨rfl, hS.2⟩

set_option maxRecDepth 20000 in
theorem of_many (p : Option Addr) (n c : Nat) (v : Int) (w : World) (hT : Tab w) (hn : (500 : Int) < (n : Int)) :
    Calls Tryd.prog 3 #[.slice p n c, .int .i64 v] w fun e w' => e = .returned (.bool true) ∧ Below w.heap.size w w' := by
  have cA := awake_any w hT
  clear hT
  go_enter Tryd.func3, Tryd.ntmps3
  go_wp2_with fail
  refine cA.mono ?_
  rintro e w1 ⟨rfl, hb⟩
  go_wp2_with fail
  go_ret
  exact ⟨rfl, hb⟩

theorem walk_MaskOf (w : World) (hT : Tab w) (p : Option Addr) (n c : Nat) (ls : List Int) (hr : Rd .i64 w p n c ls) (_hw : ∀ x ∈ ls, (Lit.int .i64 x).wf = true) (v : Int) (_wv : (Lit.int .i64 v).wf = true) :
    Calls Tryd.prog 3 #[.slice p n c, .int .i64 v] w fun e w' => e = .returned (.bool true) ∧ Below w.heap.size w w' := by
  by_cases hn : n ≤ 500
  · by_cases h0 : 0 ≤ v
    · by_cases h1 : v < 64
      · refine of_in p n c ls v w hT hr hn ?_ (decide_eq_true h0) (decide_eq_true h1)
        unfold hasN
        rw [decide_eq_true ⟨h0, h1⟩, ofN_bit ls v.toNat (by omega), Int.toNat_of_nonneg h0]
        rfl
      · refine of_high p n c ls v w hT hr hn ?_ (decide_eq_true h0) (decide_eq_false h1)
        unfold hasN
        rw [decide_eq_false (by omega)]
        rfl
    · refine of_low p n c ls v w hT hr hn ?_ (decide_eq_false h0)
      unfold hasN
      rw [decide_eq_false (by omega)]
      rfl
  · exact of_many p n c v w hT (by omega)

end Go.Proofs.YtbbcondoenmapacDoor.M
