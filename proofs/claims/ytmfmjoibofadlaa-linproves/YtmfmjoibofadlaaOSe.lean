/-
  Own text: a search in a block; the first of some numbers of which something is so; whether a call may stand next, as a function.
-/
import Derived.Test.YtmfmjoibofadlaaOPast
namespace Go.Proofs.Ytmfmjoibofadlaa.M
open Go.ChangeShapes Go.WideShapes Go.ChangeAt Go.RowKit
set_option linter.unusedSimpArgs false

/-- A function that asks a number, in every world in which all that lay in w lies as it did; it lays memory of its own alone. -/
def AsksI (F : FuncId) (caps : Array Value) (w : World) (xs : List Int) (pr : Int → Bool) : Prop :=
  ∀ (W : World) (i : Int), i ∈ xs → Below w.heap.size w W → Calls Try.prog F (#[.int .i64 i] ++ caps) W fun e w' => e = .returned (.bool (pr i)) ∧ Below W.heap.size W w'

theorem AsksI.later {F : FuncId} {caps : Array Value} {w w' : World} {xs : List Int} {pr : Int → Bool} (h : AsksI F caps w xs pr) (hb : Below w.heap.size w w') : AsksI F caps w' xs pr :=
  fun W m hm hW => h W m hm (hb.trans (hW.mono hb.size))

/-- The first place of which something is so, from k on; -1: none. -/
def ixI (pr : Int → Bool) : Nat → List Int → Int
  | _, [] => -1
  | k, m :: l => if pr m = true then (k : Int) else ixI pr (k + 1) l

theorem drop_int {xs : List Int} {k : Nat} (h : k < xs.length) : xs.drop k = xs.getD k 0 :: xs.drop (k + 1) := by
  rw [List.drop_eq_getElem_cons h, List.getD_eq_getElem?_getD, List.getElem?_eq_getElem h]
  rfl

set_option maxRecDepth 20000 in
set_option maxHeartbeats 1000000 in
theorem indexI_any (F : FuncId) (hcf : Cf F) (caps : Array Value) (pr : Int → Bool) (p : Option Addr) (n c : Nat) (fs : List Int) (w : World) (hr : Rd .i64 w p n c fs) (hn : n ≤ 1099511627776) (hA : AsksI F caps w fs pr) :
    Calls Try.prog 56 #[.slice p n c, .func (.func F) #[] caps] w fun e w' => e = .returned (.int .i64 (ixI pr 0 fs)) ∧ Below w.heap.size w w' := by
  have hl := hr.len
  have hcf' : ∀ (args : Array Value) (w : World), (callFunc F args).run Try.prog w = .ok (.enter F args) w := hcf
  clear hcf
  go_enter Try.func56, Try.ntmps56
  go_wp2_with fail
  go_loopw [8] (fun i wr => ∃ k : Nat, k ≤ n ∧ i = .int .i64 k ∧ Hid (ixI pr 0 fs = ixI pr k (fs.drop k)) ∧ Below w.heap.size w wr) (fun i _ => n - (intOf i).toNat)
  case atStart => exact ⟨0, Nat.zero_le _, rfl, rfl, Below.refl _ _⟩
  case round =>
    obtain ⟨k, hk, rfl, HG, hb⟩ := hrel
    by_cases h : k < n
    · obtain ⟨b, o, rfl, hc⟩ := (hr.below hb).cells (by omega)
      have x1 := hc k h
      have hk1 : (k : Int) < (n : Int) := by omega
      have hd := drop_int (xs := fs) (k := k) (by omega)
      have hG2 := HG.out
      rw [hd] at hG2
      clear HG hd hc hr
      have hA2 := hA wr (fs.getD k 0) (getD_mem (by omega)) hb
      generalize fs.getD k 0 = m at *
      have HG3 : Hid (ixI pr 0 fs = if pr m = true then (k : Int) else ixI pr (k + 1) (fs.drop (k + 1))) := hG2
      clear hG2
      generalize pr m = b1 at *
      go_wp2_with fail
      refine hA2.mono ?_
      rintro r w1 ⟨rfl, hb1⟩
      have hbb := hb.trans (hb1.mono hb.size)
      cases b1 with
      | true =>
        have HN : Hid (ixI pr 0 fs = (k : Int)) := by unfold Hid; rw [HG3.out]; rfl
        clear hA hA2 HG3
        go_wp2_with fail
        go_ret
        exact ⟨ret_int HN.out.symm, hbb⟩
      | false =>
        have HN : Hid (ixI pr 0 fs = ixI pr (k + 1) (fs.drop (k + 1))) := by unfold Hid; rw [HG3.out]; rfl
        clear hA2 HG3
        go_wp2_with fail
        go_roundw
        case rel => exact ⟨k + 1, by omega, by go_num, HN, hbb⟩
        case measure => simp [intOf]; omega
    · obtain rfl : k = n := by omega
      have HN : Hid (ixI pr 0 fs = -1) := by
        unfold Hid; rw [HG.out, List.drop_of_length_le (by omega)]; rfl
      clear hr HG hA
      go_wp2_with fail
      go_ret
      exact ⟨ret_int HN.out.symm, hb⟩

/-- Where the first place is. -/
theorem ixI_at (pr : Int → Bool) : ∀ (l : List Int) (k : Nat), ixI pr k l = -1 ∨ ∃ j : Nat, ixI pr k l = ((k + j : Nat) : Int) ∧ j < l.length
  | [], k => Or.inl rfl
  | m :: l, k => by
    unfold ixI
    by_cases h : pr m = true
    · rw [if_pos h]; exact Or.inr ⟨0, rfl, by simp⟩
    · rw [if_neg h]
      rcases ixI_at pr l (k + 1) with h1 | ⟨j, h1, h2⟩
      · exact Or.inl h1
      · exact Or.inr ⟨j + 1, by rw [h1]; congr 1; omega, by simp; omega⟩

/-- A search: calls that may be with sets of them, the answered reads, the writes by rising ends. -/
structure Se (w : World) (h : Nat) (p : Option Addr) (n c : Nat) (q : Option Addr) (d : Nat) (L : List Lo) (mu : Nat) (ah : List Int) (rp : Option Addr) (rn rc : Nat) (R : List Int) (wp : Option Addr) (wn wc : Nat) (S : List Int) : Prop where
  pa : Pa w h p n c q d L mu ah
  c3 : w.cell? ⟨h, 3, none⟩ = some (.slice rp rn rc)
  c4 : w.cell? ⟨h, 4, none⟩ = some (.slice wp wn wc)
  reads : Rd .i64 w rp rn rc R
  writes : Rd .i64 w wp wn wc S

theorem Se.below {w w' : World} {h : Nat} {p : Option Addr} {n c : Nat} {q : Option Addr} {d : Nat} {L : List Lo} {mu : Nat} {ah : List Int} {rp : Option Addr} {rn rc : Nat} {R : List Int} {wp : Option Addr} {wn wc : Nat} {S : List Int} (H : Se w h p n c q d L mu ah rp rn rc R wp wn wc S) (hb : Below w.heap.size w w') : Se w' h p n c q d L mu ah rp rn rc R wp wn wc S := by
  have hlt := World.block_lt_of_cell? _ _ H.c3
  exact ⟨H.pa.below hb, by rw [hb.cell (p := ⟨h, 3, none⟩) hlt]; exact H.c3, by rw [hb.cell (p := ⟨h, 4, none⟩) hlt]; exact H.c4, H.reads.below hb, H.writes.below hb⟩

set_option maxRecDepth 20000 in
set_option maxHeartbeats 1000000 in
theorem opens_any (w : World) (h : Nat) (p : Option Addr) (n c : Nat) (q : Option Addr) (e : Nat) (L : List Lo) (mu : Nat) (ah : List Int) (H : Pa w h p n c q e L mu ah) (d : Nat) (hd : d < 18446744073709551616) (v : ByteArray) (i : Int) (s0 p0 : Nat)
    (ks : w.cell? ⟨s0, 0, none⟩ = some (.pointer (some ⟨h, 0, none⟩))) (k0 : w.cell? ⟨p0, 0, none⟩ = some (.int .u64 d)) (k1 : w.cell? ⟨p0, 1, none⟩ = some (.string v)) :
    Calls Try.prog 55 #[.int .i64 i, .pointer (some ⟨s0, 0, none⟩), .pointer (some ⟨p0, 0, none⟩)] w fun r w' => r = .returned (.bool (openB n L ah d v i)) ∧ Below w.heap.size w w' := by
  go_enter Try.func55, Try.ntmps55
  go_wp2_with fail
  have hS0 : Bl w w.drew := (Below.refl _ _).drew
  refine wp_region_det [0, 1, 2, 3, 4, 5, 6] (Bl w) (Bl w) (by kernel_rfl) hS0 ?_
  refine wpDet_take ?vT0 (Bl.stays w) (fun _ h => h) (i := 0) rfl (by kernel_rfl) (by kernel_rfl) (by kernel_rfl) (by kernel_rfl) (fun _ _ _ h => h) (Gives.value (by rfl) ?yT0) ?rT0
  case yT0 => (intro w' hSw; have zz0 := ((show Below _ _ _ from hSw).cell (p := ⟨s0, 0, none⟩) (World.block_lt_of_cell? _ _ ks)).trans ks; (try dsimp only at hSw); go_simp; try with_reducible rfl)
  (try simp only [Act.put, List.getElem_toArray, List.getElem_cons_zero, List.getElem_cons_succ, List.setIfInBounds_toArray, List.set_cons_zero, List.set_cons_succ])
  refine wpDet_take ?vT1 (Bl.stays w) (fun _ h => h) (i := 1) rfl (by kernel_rfl) (by kernel_rfl) (by kernel_rfl) (by kernel_rfl) (fun _ _ _ h => h) (Gives.value (by rfl) ?yT1) ?rT1
  case yT1 => (intro w' hSw; (try dsimp only at hSw); go_simp; try with_reducible rfl)
  (try simp only [Act.put, List.getElem_toArray, List.getElem_cons_zero, List.getElem_cons_succ, List.setIfInBounds_toArray, List.set_cons_zero, List.set_cons_succ])
  refine wpDet_take ?vT2 (Bl.stays w) (fun _ h => h) (i := 2) rfl (by kernel_rfl) (by kernel_rfl) (by kernel_rfl) (by kernel_rfl) (fun _ _ _ h => h) (Gives.value (by rfl) ?yT2) ?rT2
  case yT2 => (intro w' hSw; (try dsimp only at hSw); go_simp; try with_reducible rfl)
  (try simp only [Act.put, List.getElem_toArray, List.getElem_cons_zero, List.getElem_cons_succ, List.setIfInBounds_toArray, List.set_cons_zero, List.set_cons_succ])
  refine wpDet_take ?vT3 (Bl.stays w) (fun _ h => h) (i := 3) rfl (by kernel_rfl) (by kernel_rfl) (by kernel_rfl) (by kernel_rfl) (fun _ _ _ h => h) (Gives.value (by rfl) ?yT3) ?rT3
  case yT3 => (intro w' hSw; have zz0 := ((show Below _ _ _ from hSw).cell (p := ⟨p0, 0, none⟩) (World.block_lt_of_cell? _ _ k0)).trans k0; have zz1 := ((show Below _ _ _ from hSw).cell (p := ⟨p0, 1, none⟩) (World.block_lt_of_cell? _ _ k1)).trans k1; (try dsimp only at hSw); go_simp; try with_reducible rfl)
  (try simp only [Act.put, List.getElem_toArray, List.getElem_cons_zero, List.getElem_cons_succ, List.setIfInBounds_toArray, List.set_cons_zero, List.set_cons_succ])
  refine wpDet_take ?vT4 (Bl.stays w) (fun _ h => h) (i := 4) rfl (by kernel_rfl) (by kernel_rfl) (by kernel_rfl) (by kernel_rfl) (fun _ _ _ h => h) (Gives.value (by rfl) ?yT4) ?rT4
  case yT4 => (intro w' hSw; (try dsimp only at hSw); go_simp; try with_reducible rfl)
  (try simp only [Act.put, List.getElem_toArray, List.getElem_cons_zero, List.getElem_cons_succ, List.setIfInBounds_toArray, List.set_cons_zero, List.set_cons_succ])
  refine wpDet_take (.bool (openB n L ah d v i)) (Bl.stays w) (fun _ h => h) (i := 5) rfl (by kernel_rfl) (by kernel_rfl) (by kernel_rfl) (by kernel_rfl) (fun _ _ _ h => h) (Gives.call 28 #[.pointer (some ⟨h, 0, none⟩), .agg #[.int .u64 d, .string v], .int .i64 i] (by rfl) (fun _ => by first | (go_simp; done) | (go_simp; rfl)) (fun W hW => (open_any W h p n c q e L mu ah (H.below hW) d hd v i).mono fun e w' ⟨h1, h2⟩ => ⟨h1, h2⟩)) ?_
  (try simp only [Act.put, List.getElem_toArray, List.getElem_cons_zero, List.getElem_cons_succ, List.setIfInBounds_toArray, List.set_cons_zero, List.set_cons_succ])
  refine wpDet_take ?vT6 (Bl.stays w) (fun _ h => h) (i := 6) rfl (by kernel_rfl) (by kernel_rfl) (by kernel_rfl) (by kernel_rfl) (fun _ _ _ h => h) (Gives.value (by rfl) ?yT6) ?rT6
  case yT6 => (intro w' hSw; (try dsimp only at hSw); go_simp; try with_reducible rfl)
  (try simp only [Act.put, List.getElem_toArray, List.getElem_cons_zero, List.getElem_cons_succ, List.setIfInBounds_toArray, List.set_cons_zero, List.set_cons_succ])
  refine wpDet_done (by kernel_rfl) (fun W3 hV => ?_) _
  go_wp2_with fail
  go_ret
  exact ⟨rfl, hV⟩

end Go.Proofs.Ytmfmjoibofadlaa.M
