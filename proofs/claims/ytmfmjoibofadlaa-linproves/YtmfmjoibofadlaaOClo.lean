/-
  Own text: the closures of a search.
-/
import Derived.Test.YtmfmjoibofadlaaOSe
namespace Go.Proofs.Ytmfmjoibofadlaa.M
open Go.ChangeShapes Go.WideShapes Go.ChangeAt Go.RowKit
set_option linter.unusedSimpArgs false

theorem opens_cf : Cf 55 := cf_of Try.func55 (by kernel_rfl) (by kernel_rfl)
theorem same_cf : Cf 71 := cf_of Try.func71 (by kernel_rfl) (by kernel_rfl)
theorem gone_cf : Cf 72 := cf_of Try.func72 (by kernel_rfl) (by kernel_rfl)
theorem closed_cf : Cf 73 := cf_of Try.func73 (by kernel_rfl) (by kernel_rfl)

set_option maxRecDepth 20000 in
set_option maxHeartbeats 1000000 in
theorem closed_any (w : World) (h : Nat) (p : Option Addr) (n c : Nat) (q : Option Addr) (e : Nat) (L : List Lo) (mu : Nat) (ah : List Int) (H : Pa w h p n c q e L mu ah) (d : Nat) (hd : d < 18446744073709551616) (v : ByteArray) (i : Int) (s0 p0 : Nat)
    (ks : w.cell? ⟨s0, 0, none⟩ = some (.pointer (some ⟨h, 0, none⟩))) (k0 : w.cell? ⟨p0, 0, none⟩ = some (.int .u64 d)) (k1 : w.cell? ⟨p0, 1, none⟩ = some (.string v)) :
    Calls Try.prog 73 #[.int .i64 i, .pointer (some ⟨s0, 0, none⟩), .pointer (some ⟨p0, 0, none⟩)] w fun r w' => r = .returned (.bool (!openB n L ah d v i)) ∧ Below w.heap.size w w' := by
  go_enter Try.func73, Try.ntmps73
  go_wp2_with fail
  have hS0 : Bl w w.drew := (Below.refl _ _).drew
  refine wp_region_det [0, 1, 2, 3, 4, 5, 6, 7] (Bl w) (Bl w) (by kernel_rfl) hS0 ?_
  refine wpDet_take ?vC0 (Bl.stays w) (fun _ h => h) (i := 0) rfl (by kernel_rfl) (by kernel_rfl) (by kernel_rfl) (by kernel_rfl) (fun _ _ _ h => h) (Gives.value (by rfl) ?yC0) ?rC0
  case yC0 => (intro w' hSw; have zz0 := ((show Below _ _ _ from hSw).cell (p := ⟨s0, 0, none⟩) (World.block_lt_of_cell? _ _ ks)).trans ks; (try dsimp only at hSw); go_simp; try with_reducible rfl)
  (try simp only [Act.put, List.getElem_toArray, List.getElem_cons_zero, List.getElem_cons_succ, List.setIfInBounds_toArray, List.set_cons_zero, List.set_cons_succ])
  refine wpDet_take ?vC1 (Bl.stays w) (fun _ h => h) (i := 1) rfl (by kernel_rfl) (by kernel_rfl) (by kernel_rfl) (by kernel_rfl) (fun _ _ _ h => h) (Gives.value (by rfl) ?yC1) ?rC1
  case yC1 => (intro w' hSw; (try dsimp only at hSw); go_simp; try with_reducible rfl)
  (try simp only [Act.put, List.getElem_toArray, List.getElem_cons_zero, List.getElem_cons_succ, List.setIfInBounds_toArray, List.set_cons_zero, List.set_cons_succ])
  refine wpDet_take ?vC2 (Bl.stays w) (fun _ h => h) (i := 2) rfl (by kernel_rfl) (by kernel_rfl) (by kernel_rfl) (by kernel_rfl) (fun _ _ _ h => h) (Gives.value (by rfl) ?yC2) ?rC2
  case yC2 => (intro w' hSw; (try dsimp only at hSw); go_simp; try with_reducible rfl)
  (try simp only [Act.put, List.getElem_toArray, List.getElem_cons_zero, List.getElem_cons_succ, List.setIfInBounds_toArray, List.set_cons_zero, List.set_cons_succ])
  refine wpDet_take ?vC3 (Bl.stays w) (fun _ h => h) (i := 3) rfl (by kernel_rfl) (by kernel_rfl) (by kernel_rfl) (by kernel_rfl) (fun _ _ _ h => h) (Gives.value (by rfl) ?yC3) ?rC3
  case yC3 => (intro w' hSw; have zz0 := ((show Below _ _ _ from hSw).cell (p := ⟨p0, 0, none⟩) (World.block_lt_of_cell? _ _ k0)).trans k0; have zz1 := ((show Below _ _ _ from hSw).cell (p := ⟨p0, 1, none⟩) (World.block_lt_of_cell? _ _ k1)).trans k1; (try dsimp only at hSw); go_simp; try with_reducible rfl)
  (try simp only [Act.put, List.getElem_toArray, List.getElem_cons_zero, List.getElem_cons_succ, List.setIfInBounds_toArray, List.set_cons_zero, List.set_cons_succ])
  refine wpDet_take ?vC4 (Bl.stays w) (fun _ h => h) (i := 4) rfl (by kernel_rfl) (by kernel_rfl) (by kernel_rfl) (by kernel_rfl) (fun _ _ _ h => h) (Gives.value (by rfl) ?yC4) ?rC4
  case yC4 => (intro w' hSw; (try dsimp only at hSw); go_simp; try with_reducible rfl)
  (try simp only [Act.put, List.getElem_toArray, List.getElem_cons_zero, List.getElem_cons_succ, List.setIfInBounds_toArray, List.set_cons_zero, List.set_cons_succ])
  refine wpDet_take (.bool (openB n L ah d v i)) (Bl.stays w) (fun _ h => h) (i := 5) rfl (by kernel_rfl) (by kernel_rfl) (by kernel_rfl) (by kernel_rfl) (fun _ _ _ h => h) (Gives.call 28 #[.pointer (some ⟨h, 0, none⟩), .agg #[.int .u64 d, .string v], .int .i64 i] (by rfl) (fun _ => by first | (go_simp; done) | (go_simp; rfl)) (fun W hW => (open_any W h p n c q e L mu ah (H.below hW) d hd v i).mono fun e w' ⟨h1, h2⟩ => ⟨h1, h2⟩)) ?_
  (try simp only [Act.put, List.getElem_toArray, List.getElem_cons_zero, List.getElem_cons_succ, List.setIfInBounds_toArray, List.set_cons_zero, List.set_cons_succ])
  refine wpDet_take ?vC6 (Bl.stays w) (fun _ h => h) (i := 6) rfl (by kernel_rfl) (by kernel_rfl) (by kernel_rfl) (by kernel_rfl) (fun _ _ _ h => h) (Gives.value (by rfl) ?yC6) ?rC6
  case yC6 => (intro w' hSw; (try dsimp only at hSw); go_simp; try with_reducible rfl)
  (try simp only [Act.put, List.getElem_toArray, List.getElem_cons_zero, List.getElem_cons_succ, List.setIfInBounds_toArray, List.set_cons_zero, List.set_cons_succ])
  refine wpDet_take ?vC7 (Bl.stays w) (fun _ h => h) (i := 7) rfl (by kernel_rfl) (by kernel_rfl) (by kernel_rfl) (by kernel_rfl) (fun _ _ _ h => h) (Gives.value (by rfl) ?yC7) ?rC7
  case yC7 => (intro w' hSw; (try dsimp only at hSw); go_simp; try with_reducible rfl)
  (try simp only [Act.put, List.getElem_toArray, List.getElem_cons_zero, List.getElem_cons_succ, List.setIfInBounds_toArray, List.set_cons_zero, List.set_cons_succ])
  refine wpDet_done (by kernel_rfl) (fun W3 hV => ?_) _
  go_wp2_with fail
  go_ret
  exact ⟨rfl, hV⟩

set_option maxRecDepth 20000 in
set_option maxHeartbeats 1000000 in
theorem gone_any (w : World) (x : Nat) (hx : x < 18446744073709551616) (i : Int) (x0 : Nat) (kx : w.cell? ⟨x0, 0, none⟩ = some (.int .u64 x)) :
    Calls Try.prog 72 #[.int .i64 i, .pointer (some ⟨x0, 0, none⟩)] w fun r w' => r = .returned (.bool (!hasN x i)) ∧ Below w.heap.size w w' := by
  have cH := fun W => has_any x i W hx
  generalize hasN x i = z at *
  go_enter Try.func72, Try.ntmps72
  go_wp2_with fail
  refine (cH _).mono ?_
  rintro e w1 ⟨rfl, rfl⟩
  go_wp2_with fail
  go_ret
  exact ⟨rfl, Below.refl _ _⟩

/-- Whether a write has the value of a call, and may stand next. -/
def sameB (n : Nat) (L : List Lo) (ah : List Int) (d : Nat) (v : ByteArray) (i : Int) (j : Int) : Bool :=
  ((L.getD j.toNat .z0).s.toList == (L.getD i.toNat .z0).s.toList) && openB n L ah d v j

set_option maxRecDepth 20000 in
set_option maxHeartbeats 2000000 in
theorem same_any (w : World) (h : Nat) (p : Option Addr) (n c : Nat) (q : Option Addr) (e : Nat) (L : List Lo) (mu : Nat) (ah : List Int) (H : Pa w h p n c q e L mu ah) (d : Nat) (hd : d < 18446744073709551616) (v : ByteArray) (i j : Nat) (hi : i < n) (hj : j < n) (s0 p0 i0 : Nat)
    (ks : w.cell? ⟨s0, 0, none⟩ = some (.pointer (some ⟨h, 0, none⟩))) (ki : w.cell? ⟨i0, 0, none⟩ = some (.int .i64 i)) (k0 : w.cell? ⟨p0, 0, none⟩ = some (.int .u64 d)) (k1 : w.cell? ⟨p0, 1, none⟩ = some (.string v)) :
    Calls Try.prog 71 #[.int .i64 (j : Int), .pointer (some ⟨s0, 0, none⟩), .pointer (some ⟨i0, 0, none⟩), .pointer (some ⟨p0, 0, none⟩)] w fun r w' => r = .returned (.bool (sameB n L ah d v (i : Int) (j : Int))) ∧ Below w.heap.size w w' := by
  have c0 := H.c0
  obtain ⟨b, o, rfl, hc⟩ := H.ops.cells (by omega)
  obtain ⟨_, xj, _, _, _⟩ := hc j hj
  obtain ⟨_, xi, _, _, _⟩ := hc i hi
  have hji : (j : Int) < (n : Int) := by omega
  have hii : (i : Int) < (n : Int) := by omega
  have HR : Hid (sameB n L ah d v (i : Int) (j : Int) = (((L.getD j .z0).s.toList == (L.getD i .z0).s.toList) && openB n L ah d v (j : Int))) := by
    unfold Hid sameB
    rw [Int.toNat_natCast, Int.toNat_natCast]
  clear hc
  generalize (L.getD j .z0).s = sj at *
  generalize (L.getD i .z0).s = si at *
  cases hg : (sj.toList == si.toList) with
  | true =>
    rw [hg] at HR
    go_enter Try.func71, Try.ntmps71
    go_wp2_with fail
    have hS0 : Bl w w.drew := (Below.refl _ _).drew
    refine wp_region_det [0, 1, 2, 3, 4, 5, 6, 7, 8, 9, 10, 11, 12, 13, 14, 15, 16, 17, 18, 19, 20, 21, 22, 23, 24, 25, 26, 27] (Bl w) (Bl w) (by kernel_rfl) hS0 ?_
    refine wpDet_take ?vMt0 (Bl.stays w) (fun _ h => h) (i := 0) rfl (by kernel_rfl) (by kernel_rfl) (by kernel_rfl) (by kernel_rfl) (fun _ _ _ h => h) (Gives.value (by rfl) ?yMt0) ?rMt0
    case yMt0 => (intro w' hSw; have zz0 := ((show Below _ _ _ from hSw).cell (p := ⟨s0, 0, none⟩) (World.block_lt_of_cell? _ _ ks)).trans ks; (try dsimp only at hSw); go_simp; try with_reducible rfl)
    (try simp only [Act.put, List.getElem_toArray, List.getElem_cons_zero, List.getElem_cons_succ, List.setIfInBounds_toArray, List.set_cons_zero, List.set_cons_succ])
    refine wpDet_take ?vMt1 (Bl.stays w) (fun _ h => h) (i := 1) rfl (by kernel_rfl) (by kernel_rfl) (by kernel_rfl) (by kernel_rfl) (fun _ _ _ h => h) (Gives.value (by rfl) ?yMt1) ?rMt1
    case yMt1 => (intro w' hSw; (try dsimp only at hSw); go_simp; try with_reducible rfl)
    (try simp only [Act.put, List.getElem_toArray, List.getElem_cons_zero, List.getElem_cons_succ, List.setIfInBounds_toArray, List.set_cons_zero, List.set_cons_succ])
    refine wpDet_take ?vMt2 (Bl.stays w) (fun _ h => h) (i := 2) rfl (by kernel_rfl) (by kernel_rfl) (by kernel_rfl) (by kernel_rfl) (fun _ _ _ h => h) (Gives.value (by rfl) ?yMt2) ?rMt2
    case yMt2 => (intro w' hSw; (try dsimp only at hSw); go_simp; try with_reducible rfl)
    (try simp only [Act.put, List.getElem_toArray, List.getElem_cons_zero, List.getElem_cons_succ, List.setIfInBounds_toArray, List.set_cons_zero, List.set_cons_succ])
    refine wpDet_take ?vMt3 (Bl.stays w) (fun _ h => h) (i := 3) rfl (by kernel_rfl) (by kernel_rfl) (by kernel_rfl) (by kernel_rfl) (fun _ _ _ h => h) (Gives.value (by rfl) ?yMt3) ?rMt3
    case yMt3 => (intro w' hSw; (try dsimp only at hSw); go_simp; try with_reducible rfl)
    (try simp only [Act.put, List.getElem_toArray, List.getElem_cons_zero, List.getElem_cons_succ, List.setIfInBounds_toArray, List.set_cons_zero, List.set_cons_succ])
    refine wpDet_take ?vMt4 (Bl.stays w) (fun _ h => h) (i := 4) rfl (by kernel_rfl) (by kernel_rfl) (by kernel_rfl) (by kernel_rfl) (fun _ _ _ h => h) (Gives.value (by rfl) ?yMt4) ?rMt4
    case yMt4 => (intro w' hSw; have zz0 := ((show Below _ _ _ from hSw).cell (p := ⟨h, 0, none⟩) (World.block_lt_of_cell? _ _ c0)).trans c0; (try dsimp only at hSw); go_simp; try with_reducible rfl)
    (try simp only [Act.put, List.getElem_toArray, List.getElem_cons_zero, List.getElem_cons_succ, List.setIfInBounds_toArray, List.set_cons_zero, List.set_cons_succ])
    refine wpDet_take ?vMt5 (Bl.stays w) (fun _ h => h) (i := 5) rfl (by kernel_rfl) (by kernel_rfl) (by kernel_rfl) (by kernel_rfl) (fun _ _ _ h => h) (Gives.value (by rfl) ?yMt5) ?rMt5
    case yMt5 => (intro w' hSw; (try dsimp only at hSw); go_simp; try with_reducible rfl)
    (try simp only [Act.put, List.getElem_toArray, List.getElem_cons_zero, List.getElem_cons_succ, List.setIfInBounds_toArray, List.set_cons_zero, List.set_cons_succ])
    refine wpDet_take ?vMt6 (Bl.stays w) (fun _ h => h) (i := 6) rfl (by kernel_rfl) (by kernel_rfl) (by kernel_rfl) (by kernel_rfl) (fun _ _ _ h => h) (Gives.value (by rfl) ?yMt6) ?rMt6
    case yMt6 => (intro w' hSw; (try dsimp only at hSw); go_simp; try with_reducible rfl)
    (try simp only [Act.put, List.getElem_toArray, List.getElem_cons_zero, List.getElem_cons_succ, List.setIfInBounds_toArray, List.set_cons_zero, List.set_cons_succ])
    refine wpDet_take ?vMt7 (Bl.stays w) (fun _ h => h) (i := 7) rfl (by kernel_rfl) (by kernel_rfl) (by kernel_rfl) (by kernel_rfl) (fun _ _ _ h => h) (Gives.value (by rfl) ?yMt7) ?rMt7
    case yMt7 => (intro w' hSw; (try dsimp only at hSw); go_simp; try with_reducible rfl)
    (try simp only [Act.put, List.getElem_toArray, List.getElem_cons_zero, List.getElem_cons_succ, List.setIfInBounds_toArray, List.set_cons_zero, List.set_cons_succ])
    refine wpDet_take ?vMt8 (Bl.stays w) (fun _ h => h) (i := 8) rfl (by kernel_rfl) (by kernel_rfl) (by kernel_rfl) (by kernel_rfl) (fun _ _ _ h => h) (Gives.value (by rfl) ?yMt8) ?rMt8
    case yMt8 => (intro w' hSw; have zz0 := ((show Below _ _ _ from hSw).cell (p := ⟨b, o + j * 5 + 1, none⟩) (World.block_lt_of_cell? _ _ xj)).trans xj; (try dsimp only at hSw); go_simp; try with_reducible rfl)
    (try simp only [Act.put, List.getElem_toArray, List.getElem_cons_zero, List.getElem_cons_succ, List.setIfInBounds_toArray, List.set_cons_zero, List.set_cons_succ])
    refine wpDet_take ?vMt9 (Bl.stays w) (fun _ h => h) (i := 9) rfl (by kernel_rfl) (by kernel_rfl) (by kernel_rfl) (by kernel_rfl) (fun _ _ _ h => h) (Gives.value (by rfl) ?yMt9) ?rMt9
    case yMt9 => (intro w' hSw; have zz0 := ((show Below _ _ _ from hSw).cell (p := ⟨s0, 0, none⟩) (World.block_lt_of_cell? _ _ ks)).trans ks; (try dsimp only at hSw); go_simp; try with_reducible rfl)
    (try simp only [Act.put, List.getElem_toArray, List.getElem_cons_zero, List.getElem_cons_succ, List.setIfInBounds_toArray, List.set_cons_zero, List.set_cons_succ])
    refine wpDet_take ?vMt10 (Bl.stays w) (fun _ h => h) (i := 10) rfl (by kernel_rfl) (by kernel_rfl) (by kernel_rfl) (by kernel_rfl) (fun _ _ _ h => h) (Gives.value (by rfl) ?yMt10) ?rMt10
    case yMt10 => (intro w' hSw; (try dsimp only at hSw); go_simp; try with_reducible rfl)
    (try simp only [Act.put, List.getElem_toArray, List.getElem_cons_zero, List.getElem_cons_succ, List.setIfInBounds_toArray, List.set_cons_zero, List.set_cons_succ])
    refine wpDet_take ?vMt11 (Bl.stays w) (fun _ h => h) (i := 11) rfl (by kernel_rfl) (by kernel_rfl) (by kernel_rfl) (by kernel_rfl) (fun _ _ _ h => h) (Gives.value (by rfl) ?yMt11) ?rMt11
    case yMt11 => (intro w' hSw; (try dsimp only at hSw); go_simp; try with_reducible rfl)
    (try simp only [Act.put, List.getElem_toArray, List.getElem_cons_zero, List.getElem_cons_succ, List.setIfInBounds_toArray, List.set_cons_zero, List.set_cons_succ])
    refine wpDet_take ?vMt12 (Bl.stays w) (fun _ h => h) (i := 12) rfl (by kernel_rfl) (by kernel_rfl) (by kernel_rfl) (by kernel_rfl) (fun _ _ _ h => h) (Gives.value (by rfl) ?yMt12) ?rMt12
    case yMt12 => (intro w' hSw; (try dsimp only at hSw); go_simp; try with_reducible rfl)
    (try simp only [Act.put, List.getElem_toArray, List.getElem_cons_zero, List.getElem_cons_succ, List.setIfInBounds_toArray, List.set_cons_zero, List.set_cons_succ])
    refine wpDet_take ?vMt13 (Bl.stays w) (fun _ h => h) (i := 13) rfl (by kernel_rfl) (by kernel_rfl) (by kernel_rfl) (by kernel_rfl) (fun _ _ _ h => h) (Gives.value (by rfl) ?yMt13) ?rMt13
    case yMt13 => (intro w' hSw; have zz0 := ((show Below _ _ _ from hSw).cell (p := ⟨h, 0, none⟩) (World.block_lt_of_cell? _ _ c0)).trans c0; (try dsimp only at hSw); go_simp; try with_reducible rfl)
    (try simp only [Act.put, List.getElem_toArray, List.getElem_cons_zero, List.getElem_cons_succ, List.setIfInBounds_toArray, List.set_cons_zero, List.set_cons_succ])
    refine wpDet_take ?vMt14 (Bl.stays w) (fun _ h => h) (i := 14) rfl (by kernel_rfl) (by kernel_rfl) (by kernel_rfl) (by kernel_rfl) (fun _ _ _ h => h) (Gives.value (by rfl) ?yMt14) ?rMt14
    case yMt14 => (intro w' hSw; have zz0 := ((show Below _ _ _ from hSw).cell (p := ⟨i0, 0, none⟩) (World.block_lt_of_cell? _ _ ki)).trans ki; (try dsimp only at hSw); go_simp; try with_reducible rfl)
    (try simp only [Act.put, List.getElem_toArray, List.getElem_cons_zero, List.getElem_cons_succ, List.setIfInBounds_toArray, List.set_cons_zero, List.set_cons_succ])
    refine wpDet_take ?vMt15 (Bl.stays w) (fun _ h => h) (i := 15) rfl (by kernel_rfl) (by kernel_rfl) (by kernel_rfl) (by kernel_rfl) (fun _ _ _ h => h) (Gives.value (by rfl) ?yMt15) ?rMt15
    case yMt15 => (intro w' hSw; (try dsimp only at hSw); go_simp; try with_reducible rfl)
    (try simp only [Act.put, List.getElem_toArray, List.getElem_cons_zero, List.getElem_cons_succ, List.setIfInBounds_toArray, List.set_cons_zero, List.set_cons_succ])
    refine wpDet_take ?vMt16 (Bl.stays w) (fun _ h => h) (i := 16) rfl (by kernel_rfl) (by kernel_rfl) (by kernel_rfl) (by kernel_rfl) (fun _ _ _ h => h) (Gives.value (by rfl) ?yMt16) ?rMt16
    case yMt16 => (intro w' hSw; (try dsimp only at hSw); go_simp; try with_reducible rfl)
    (try simp only [Act.put, List.getElem_toArray, List.getElem_cons_zero, List.getElem_cons_succ, List.setIfInBounds_toArray, List.set_cons_zero, List.set_cons_succ])
    refine wpDet_take ?vMt17 (Bl.stays w) (fun _ h => h) (i := 17) rfl (by kernel_rfl) (by kernel_rfl) (by kernel_rfl) (by kernel_rfl) (fun _ _ _ h => h) (Gives.value (by rfl) ?yMt17) ?rMt17
    case yMt17 => (intro w' hSw; have zz0 := ((show Below _ _ _ from hSw).cell (p := ⟨b, o + i * 5 + 1, none⟩) (World.block_lt_of_cell? _ _ xi)).trans xi; (try dsimp only at hSw); go_simp; try with_reducible rfl)
    (try simp only [Act.put, List.getElem_toArray, List.getElem_cons_zero, List.getElem_cons_succ, List.setIfInBounds_toArray, List.set_cons_zero, List.set_cons_succ])
    refine wpDet_take (.bool true) (Bl.stays w) (fun _ h => h) (i := 18) rfl (by kernel_rfl) (by kernel_rfl) (by kernel_rfl) (by kernel_rfl) (fun _ _ _ h => h) (Gives.value (by rfl) ?yMt18) ?rMt18
    case yMt18 => (intro w' hSw; (try dsimp only at hSw); go_simp; (try simp only [hg]); try with_reducible rfl)
    (try simp only [Act.put, List.getElem_toArray, List.getElem_cons_zero, List.getElem_cons_succ, List.setIfInBounds_toArray, List.set_cons_zero, List.set_cons_succ])
    refine wpDet_take ?vMt19 (Bl.stays w) (fun _ h => h) (i := 19) rfl (by kernel_rfl) (by kernel_rfl) (by kernel_rfl) (by kernel_rfl) (fun _ _ _ h => h) (Gives.value (by rfl) ?yMt19) ?rMt19
    case yMt19 => (intro w' hSw; (try dsimp only at hSw); go_simp; try with_reducible rfl)
    (try simp only [Act.put, List.getElem_toArray, List.getElem_cons_zero, List.getElem_cons_succ, List.setIfInBounds_toArray, List.set_cons_zero, List.set_cons_succ])
    refine wpDet_take ?vMt20 (Bl.stays w) (fun _ h => h) (i := 20) rfl (by kernel_rfl) (by kernel_rfl) (by kernel_rfl) (by kernel_rfl) (fun _ _ _ h => h) (Gives.value (by rfl) ?yMt20) ?rMt20
    case yMt20 => (intro w' hSw; have zz0 := ((show Below _ _ _ from hSw).cell (p := ⟨s0, 0, none⟩) (World.block_lt_of_cell? _ _ ks)).trans ks; (try dsimp only at hSw); go_simp; try with_reducible rfl)
    (try simp only [Act.put, List.getElem_toArray, List.getElem_cons_zero, List.getElem_cons_succ, List.setIfInBounds_toArray, List.set_cons_zero, List.set_cons_succ])
    refine wpDet_take ?vMt21 (Bl.stays w) (fun _ h => h) (i := 21) rfl (by kernel_rfl) (by kernel_rfl) (by kernel_rfl) (by kernel_rfl) (fun _ _ _ h => h) (Gives.value (by rfl) ?yMt21) ?rMt21
    case yMt21 => (intro w' hSw; (try dsimp only at hSw); go_simp; try with_reducible rfl)
    (try simp only [Act.put, List.getElem_toArray, List.getElem_cons_zero, List.getElem_cons_succ, List.setIfInBounds_toArray, List.set_cons_zero, List.set_cons_succ])
    refine wpDet_take ?vMt22 (Bl.stays w) (fun _ h => h) (i := 22) rfl (by kernel_rfl) (by kernel_rfl) (by kernel_rfl) (by kernel_rfl) (fun _ _ _ h => h) (Gives.value (by rfl) ?yMt22) ?rMt22
    case yMt22 => (intro w' hSw; (try dsimp only at hSw); go_simp; try with_reducible rfl)
    (try simp only [Act.put, List.getElem_toArray, List.getElem_cons_zero, List.getElem_cons_succ, List.setIfInBounds_toArray, List.set_cons_zero, List.set_cons_succ])
    refine wpDet_take ?vMt23 (Bl.stays w) (fun _ h => h) (i := 23) rfl (by kernel_rfl) (by kernel_rfl) (by kernel_rfl) (by kernel_rfl) (fun _ _ _ h => h) (Gives.value (by rfl) ?yMt23) ?rMt23
    case yMt23 => (intro w' hSw; have zz0 := ((show Below _ _ _ from hSw).cell (p := ⟨p0, 0, none⟩) (World.block_lt_of_cell? _ _ k0)).trans k0; have zz1 := ((show Below _ _ _ from hSw).cell (p := ⟨p0, 1, none⟩) (World.block_lt_of_cell? _ _ k1)).trans k1; (try dsimp only at hSw); go_simp; try with_reducible rfl)
    (try simp only [Act.put, List.getElem_toArray, List.getElem_cons_zero, List.getElem_cons_succ, List.setIfInBounds_toArray, List.set_cons_zero, List.set_cons_succ])
    refine wpDet_take ?vMt24 (Bl.stays w) (fun _ h => h) (i := 24) rfl (by kernel_rfl) (by kernel_rfl) (by kernel_rfl) (by kernel_rfl) (fun _ _ _ h => h) (Gives.value (by rfl) ?yMt24) ?rMt24
    case yMt24 => (intro w' hSw; (try dsimp only at hSw); go_simp; try with_reducible rfl)
    (try simp only [Act.put, List.getElem_toArray, List.getElem_cons_zero, List.getElem_cons_succ, List.setIfInBounds_toArray, List.set_cons_zero, List.set_cons_succ])
    refine wpDet_take (.bool (openB n L ah d v (j : Int))) (Bl.stays w) (fun _ h => h) (i := 25) rfl (by kernel_rfl) (by kernel_rfl) (by kernel_rfl) (by kernel_rfl) (fun _ _ _ h => h) (Gives.call 28 #[.pointer (some ⟨h, 0, none⟩), .agg #[.int .u64 d, .string v], .int .i64 (j : Int)] (by rfl) (fun _ => by first | (go_simp; done) | (go_simp; rfl)) (fun W hW => (open_any W h _ n c q e L mu ah (H.below hW) d hd v (j : Int)).mono fun e w' ⟨h1, h2⟩ => ⟨h1, h2⟩)) ?_
    (try simp only [Act.put, List.getElem_toArray, List.getElem_cons_zero, List.getElem_cons_succ, List.setIfInBounds_toArray, List.set_cons_zero, List.set_cons_succ])
    refine wpDet_take ?vMt26 (Bl.stays w) (fun _ h => h) (i := 26) rfl (by kernel_rfl) (by kernel_rfl) (by kernel_rfl) (by kernel_rfl) (fun _ _ _ h => h) (Gives.value (by rfl) ?yMt26) ?rMt26
    case yMt26 => (intro w' hSw; (try dsimp only at hSw); go_simp; try with_reducible rfl)
    (try simp only [Act.put, List.getElem_toArray, List.getElem_cons_zero, List.getElem_cons_succ, List.setIfInBounds_toArray, List.set_cons_zero, List.set_cons_succ])
    refine wpDet_take ?vMt27 (Bl.stays w) (fun _ h => h) (i := 27) rfl (by kernel_rfl) (by kernel_rfl) (by kernel_rfl) (by kernel_rfl) (fun _ _ _ h => h) (Gives.value (by rfl) ?yMt27) ?rMt27
    case yMt27 => (intro w' hSw; (try dsimp only at hSw); go_simp; try with_reducible rfl)
    (try simp only [Act.put, List.getElem_toArray, List.getElem_cons_zero, List.getElem_cons_succ, List.setIfInBounds_toArray, List.set_cons_zero, List.set_cons_succ])
    refine wpDet_done (by kernel_rfl) (fun W3 hV => ?_) _
    go_wp2_with fail
    go_ret
    exact ⟨ret_bool HR.out.symm, hV⟩
  | false =>
    rw [hg] at HR
    go_enter Try.func71, Try.ntmps71
    go_wp2_with fail
    have hS0 : Bl w w.drew := (Below.refl _ _).drew
    refine wp_region_det [0, 1, 2, 3, 4, 5, 6, 7, 8, 9, 10, 11, 12, 13, 14, 15, 16, 17, 18, 19, 20, 21, 22, 23, 24, 25, 26, 27] (Bl w) (Bl w) (by kernel_rfl) hS0 ?_
    refine wpDet_take ?vMf0 (Bl.stays w) (fun _ h => h) (i := 0) rfl (by kernel_rfl) (by kernel_rfl) (by kernel_rfl) (by kernel_rfl) (fun _ _ _ h => h) (Gives.value (by rfl) ?yMf0) ?rMf0
    case yMf0 => (intro w' hSw; have zz0 := ((show Below _ _ _ from hSw).cell (p := ⟨s0, 0, none⟩) (World.block_lt_of_cell? _ _ ks)).trans ks; (try dsimp only at hSw); go_simp; try with_reducible rfl)
    (try simp only [Act.put, List.getElem_toArray, List.getElem_cons_zero, List.getElem_cons_succ, List.setIfInBounds_toArray, List.set_cons_zero, List.set_cons_succ])
    refine wpDet_take ?vMf1 (Bl.stays w) (fun _ h => h) (i := 1) rfl (by kernel_rfl) (by kernel_rfl) (by kernel_rfl) (by kernel_rfl) (fun _ _ _ h => h) (Gives.value (by rfl) ?yMf1) ?rMf1
    case yMf1 => (intro w' hSw; (try dsimp only at hSw); go_simp; try with_reducible rfl)
    (try simp only [Act.put, List.getElem_toArray, List.getElem_cons_zero, List.getElem_cons_succ, List.setIfInBounds_toArray, List.set_cons_zero, List.set_cons_succ])
    refine wpDet_take ?vMf2 (Bl.stays w) (fun _ h => h) (i := 2) rfl (by kernel_rfl) (by kernel_rfl) (by kernel_rfl) (by kernel_rfl) (fun _ _ _ h => h) (Gives.value (by rfl) ?yMf2) ?rMf2
    case yMf2 => (intro w' hSw; (try dsimp only at hSw); go_simp; try with_reducible rfl)
    (try simp only [Act.put, List.getElem_toArray, List.getElem_cons_zero, List.getElem_cons_succ, List.setIfInBounds_toArray, List.set_cons_zero, List.set_cons_succ])
    refine wpDet_take ?vMf3 (Bl.stays w) (fun _ h => h) (i := 3) rfl (by kernel_rfl) (by kernel_rfl) (by kernel_rfl) (by kernel_rfl) (fun _ _ _ h => h) (Gives.value (by rfl) ?yMf3) ?rMf3
    case yMf3 => (intro w' hSw; (try dsimp only at hSw); go_simp; try with_reducible rfl)
    (try simp only [Act.put, List.getElem_toArray, List.getElem_cons_zero, List.getElem_cons_succ, List.setIfInBounds_toArray, List.set_cons_zero, List.set_cons_succ])
    refine wpDet_take ?vMf4 (Bl.stays w) (fun _ h => h) (i := 4) rfl (by kernel_rfl) (by kernel_rfl) (by kernel_rfl) (by kernel_rfl) (fun _ _ _ h => h) (Gives.value (by rfl) ?yMf4) ?rMf4
    case yMf4 => (intro w' hSw; have zz0 := ((show Below _ _ _ from hSw).cell (p := ⟨h, 0, none⟩) (World.block_lt_of_cell? _ _ c0)).trans c0; (try dsimp only at hSw); go_simp; try with_reducible rfl)
    (try simp only [Act.put, List.getElem_toArray, List.getElem_cons_zero, List.getElem_cons_succ, List.setIfInBounds_toArray, List.set_cons_zero, List.set_cons_succ])
    refine wpDet_take ?vMf5 (Bl.stays w) (fun _ h => h) (i := 5) rfl (by kernel_rfl) (by kernel_rfl) (by kernel_rfl) (by kernel_rfl) (fun _ _ _ h => h) (Gives.value (by rfl) ?yMf5) ?rMf5
    case yMf5 => (intro w' hSw; (try dsimp only at hSw); go_simp; try with_reducible rfl)
    (try simp only [Act.put, List.getElem_toArray, List.getElem_cons_zero, List.getElem_cons_succ, List.setIfInBounds_toArray, List.set_cons_zero, List.set_cons_succ])
    refine wpDet_take ?vMf6 (Bl.stays w) (fun _ h => h) (i := 6) rfl (by kernel_rfl) (by kernel_rfl) (by kernel_rfl) (by kernel_rfl) (fun _ _ _ h => h) (Gives.value (by rfl) ?yMf6) ?rMf6
    case yMf6 => (intro w' hSw; (try dsimp only at hSw); go_simp; try with_reducible rfl)
    (try simp only [Act.put, List.getElem_toArray, List.getElem_cons_zero, List.getElem_cons_succ, List.setIfInBounds_toArray, List.set_cons_zero, List.set_cons_succ])
    refine wpDet_take ?vMf7 (Bl.stays w) (fun _ h => h) (i := 7) rfl (by kernel_rfl) (by kernel_rfl) (by kernel_rfl) (by kernel_rfl) (fun _ _ _ h => h) (Gives.value (by rfl) ?yMf7) ?rMf7
    case yMf7 => (intro w' hSw; (try dsimp only at hSw); go_simp; try with_reducible rfl)
    (try simp only [Act.put, List.getElem_toArray, List.getElem_cons_zero, List.getElem_cons_succ, List.setIfInBounds_toArray, List.set_cons_zero, List.set_cons_succ])
    refine wpDet_take ?vMf8 (Bl.stays w) (fun _ h => h) (i := 8) rfl (by kernel_rfl) (by kernel_rfl) (by kernel_rfl) (by kernel_rfl) (fun _ _ _ h => h) (Gives.value (by rfl) ?yMf8) ?rMf8
    case yMf8 => (intro w' hSw; have zz0 := ((show Below _ _ _ from hSw).cell (p := ⟨b, o + j * 5 + 1, none⟩) (World.block_lt_of_cell? _ _ xj)).trans xj; (try dsimp only at hSw); go_simp; try with_reducible rfl)
    (try simp only [Act.put, List.getElem_toArray, List.getElem_cons_zero, List.getElem_cons_succ, List.setIfInBounds_toArray, List.set_cons_zero, List.set_cons_succ])
    refine wpDet_take ?vMf9 (Bl.stays w) (fun _ h => h) (i := 9) rfl (by kernel_rfl) (by kernel_rfl) (by kernel_rfl) (by kernel_rfl) (fun _ _ _ h => h) (Gives.value (by rfl) ?yMf9) ?rMf9
    case yMf9 => (intro w' hSw; have zz0 := ((show Below _ _ _ from hSw).cell (p := ⟨s0, 0, none⟩) (World.block_lt_of_cell? _ _ ks)).trans ks; (try dsimp only at hSw); go_simp; try with_reducible rfl)
    (try simp only [Act.put, List.getElem_toArray, List.getElem_cons_zero, List.getElem_cons_succ, List.setIfInBounds_toArray, List.set_cons_zero, List.set_cons_succ])
    refine wpDet_take ?vMf10 (Bl.stays w) (fun _ h => h) (i := 10) rfl (by kernel_rfl) (by kernel_rfl) (by kernel_rfl) (by kernel_rfl) (fun _ _ _ h => h) (Gives.value (by rfl) ?yMf10) ?rMf10
    case yMf10 => (intro w' hSw; (try dsimp only at hSw); go_simp; try with_reducible rfl)
    (try simp only [Act.put, List.getElem_toArray, List.getElem_cons_zero, List.getElem_cons_succ, List.setIfInBounds_toArray, List.set_cons_zero, List.set_cons_succ])
    refine wpDet_take ?vMf11 (Bl.stays w) (fun _ h => h) (i := 11) rfl (by kernel_rfl) (by kernel_rfl) (by kernel_rfl) (by kernel_rfl) (fun _ _ _ h => h) (Gives.value (by rfl) ?yMf11) ?rMf11
    case yMf11 => (intro w' hSw; (try dsimp only at hSw); go_simp; try with_reducible rfl)
    (try simp only [Act.put, List.getElem_toArray, List.getElem_cons_zero, List.getElem_cons_succ, List.setIfInBounds_toArray, List.set_cons_zero, List.set_cons_succ])
    refine wpDet_take ?vMf12 (Bl.stays w) (fun _ h => h) (i := 12) rfl (by kernel_rfl) (by kernel_rfl) (by kernel_rfl) (by kernel_rfl) (fun _ _ _ h => h) (Gives.value (by rfl) ?yMf12) ?rMf12
    case yMf12 => (intro w' hSw; (try dsimp only at hSw); go_simp; try with_reducible rfl)
    (try simp only [Act.put, List.getElem_toArray, List.getElem_cons_zero, List.getElem_cons_succ, List.setIfInBounds_toArray, List.set_cons_zero, List.set_cons_succ])
    refine wpDet_take ?vMf13 (Bl.stays w) (fun _ h => h) (i := 13) rfl (by kernel_rfl) (by kernel_rfl) (by kernel_rfl) (by kernel_rfl) (fun _ _ _ h => h) (Gives.value (by rfl) ?yMf13) ?rMf13
    case yMf13 => (intro w' hSw; have zz0 := ((show Below _ _ _ from hSw).cell (p := ⟨h, 0, none⟩) (World.block_lt_of_cell? _ _ c0)).trans c0; (try dsimp only at hSw); go_simp; try with_reducible rfl)
    (try simp only [Act.put, List.getElem_toArray, List.getElem_cons_zero, List.getElem_cons_succ, List.setIfInBounds_toArray, List.set_cons_zero, List.set_cons_succ])
    refine wpDet_take ?vMf14 (Bl.stays w) (fun _ h => h) (i := 14) rfl (by kernel_rfl) (by kernel_rfl) (by kernel_rfl) (by kernel_rfl) (fun _ _ _ h => h) (Gives.value (by rfl) ?yMf14) ?rMf14
    case yMf14 => (intro w' hSw; have zz0 := ((show Below _ _ _ from hSw).cell (p := ⟨i0, 0, none⟩) (World.block_lt_of_cell? _ _ ki)).trans ki; (try dsimp only at hSw); go_simp; try with_reducible rfl)
    (try simp only [Act.put, List.getElem_toArray, List.getElem_cons_zero, List.getElem_cons_succ, List.setIfInBounds_toArray, List.set_cons_zero, List.set_cons_succ])
    refine wpDet_take ?vMf15 (Bl.stays w) (fun _ h => h) (i := 15) rfl (by kernel_rfl) (by kernel_rfl) (by kernel_rfl) (by kernel_rfl) (fun _ _ _ h => h) (Gives.value (by rfl) ?yMf15) ?rMf15
    case yMf15 => (intro w' hSw; (try dsimp only at hSw); go_simp; try with_reducible rfl)
    (try simp only [Act.put, List.getElem_toArray, List.getElem_cons_zero, List.getElem_cons_succ, List.setIfInBounds_toArray, List.set_cons_zero, List.set_cons_succ])
    refine wpDet_take ?vMf16 (Bl.stays w) (fun _ h => h) (i := 16) rfl (by kernel_rfl) (by kernel_rfl) (by kernel_rfl) (by kernel_rfl) (fun _ _ _ h => h) (Gives.value (by rfl) ?yMf16) ?rMf16
    case yMf16 => (intro w' hSw; (try dsimp only at hSw); go_simp; try with_reducible rfl)
    (try simp only [Act.put, List.getElem_toArray, List.getElem_cons_zero, List.getElem_cons_succ, List.setIfInBounds_toArray, List.set_cons_zero, List.set_cons_succ])
    refine wpDet_take ?vMf17 (Bl.stays w) (fun _ h => h) (i := 17) rfl (by kernel_rfl) (by kernel_rfl) (by kernel_rfl) (by kernel_rfl) (fun _ _ _ h => h) (Gives.value (by rfl) ?yMf17) ?rMf17
    case yMf17 => (intro w' hSw; have zz0 := ((show Below _ _ _ from hSw).cell (p := ⟨b, o + i * 5 + 1, none⟩) (World.block_lt_of_cell? _ _ xi)).trans xi; (try dsimp only at hSw); go_simp; try with_reducible rfl)
    (try simp only [Act.put, List.getElem_toArray, List.getElem_cons_zero, List.getElem_cons_succ, List.setIfInBounds_toArray, List.set_cons_zero, List.set_cons_succ])
    refine wpDet_take (.bool false) (Bl.stays w) (fun _ h => h) (i := 18) rfl (by kernel_rfl) (by kernel_rfl) (by kernel_rfl) (by kernel_rfl) (fun _ _ _ h => h) (Gives.value (by rfl) ?yMf18) ?rMf18
    case yMf18 => (intro w' hSw; (try dsimp only at hSw); go_simp; (try simp only [hg]); try with_reducible rfl)
    (try simp only [Act.put, List.getElem_toArray, List.getElem_cons_zero, List.getElem_cons_succ, List.setIfInBounds_toArray, List.set_cons_zero, List.set_cons_succ])
    refine wpDet_take ?vMf19 (Bl.stays w) (fun _ h => h) (i := 19) rfl (by kernel_rfl) (by kernel_rfl) (by kernel_rfl) (by kernel_rfl) (fun _ _ _ h => h) (Gives.value (by rfl) ?yMf19) ?rMf19
    case yMf19 => (intro w' hSw; (try dsimp only at hSw); go_simp; try with_reducible rfl)
    (try simp only [Act.put, List.getElem_toArray, List.getElem_cons_zero, List.getElem_cons_succ, List.setIfInBounds_toArray, List.set_cons_zero, List.set_cons_succ])
    refine wpDet_take undef (Bl.stays w) (fun _ h => h) (i := 20) rfl (by kernel_rfl) (by kernel_rfl) (by kernel_rfl) (by kernel_rfl) (fun _ _ _ h => h) (Gives.not (by rfl)) ?_
    (try simp only [Act.put, List.getElem_toArray, List.getElem_cons_zero, List.getElem_cons_succ, List.setIfInBounds_toArray, List.set_cons_zero, List.set_cons_succ])
    refine wpDet_take undef (Bl.stays w) (fun _ h => h) (i := 21) rfl (by kernel_rfl) (by kernel_rfl) (by kernel_rfl) (by kernel_rfl) (fun _ _ _ h => h) (Gives.not (by rfl)) ?_
    (try simp only [Act.put, List.getElem_toArray, List.getElem_cons_zero, List.getElem_cons_succ, List.setIfInBounds_toArray, List.set_cons_zero, List.set_cons_succ])
    refine wpDet_take undef (Bl.stays w) (fun _ h => h) (i := 22) rfl (by kernel_rfl) (by kernel_rfl) (by kernel_rfl) (by kernel_rfl) (fun _ _ _ h => h) (Gives.not (by rfl)) ?_
    (try simp only [Act.put, List.getElem_toArray, List.getElem_cons_zero, List.getElem_cons_succ, List.setIfInBounds_toArray, List.set_cons_zero, List.set_cons_succ])
    refine wpDet_take undef (Bl.stays w) (fun _ h => h) (i := 23) rfl (by kernel_rfl) (by kernel_rfl) (by kernel_rfl) (by kernel_rfl) (fun _ _ _ h => h) (Gives.not (by rfl)) ?_
    (try simp only [Act.put, List.getElem_toArray, List.getElem_cons_zero, List.getElem_cons_succ, List.setIfInBounds_toArray, List.set_cons_zero, List.set_cons_succ])
    refine wpDet_take undef (Bl.stays w) (fun _ h => h) (i := 24) rfl (by kernel_rfl) (by kernel_rfl) (by kernel_rfl) (by kernel_rfl) (fun _ _ _ h => h) (Gives.not (by rfl)) ?_
    (try simp only [Act.put, List.getElem_toArray, List.getElem_cons_zero, List.getElem_cons_succ, List.setIfInBounds_toArray, List.set_cons_zero, List.set_cons_succ])
    refine wpDet_take undef (Bl.stays w) (fun _ h => h) (i := 25) rfl (by kernel_rfl) (by kernel_rfl) (by kernel_rfl) (by kernel_rfl) (fun _ _ _ h => h) (Gives.not (by rfl)) ?_
    (try simp only [Act.put, List.getElem_toArray, List.getElem_cons_zero, List.getElem_cons_succ, List.setIfInBounds_toArray, List.set_cons_zero, List.set_cons_succ])
    refine wpDet_take ?vMf26 (Bl.stays w) (fun _ h => h) (i := 26) rfl (by kernel_rfl) (by kernel_rfl) (by kernel_rfl) (by kernel_rfl) (fun _ _ _ h => h) (Gives.value (by rfl) ?yMf26) ?rMf26
    case yMf26 => (intro w' hSw; (try dsimp only at hSw); go_simp; try with_reducible rfl)
    (try simp only [Act.put, List.getElem_toArray, List.getElem_cons_zero, List.getElem_cons_succ, List.setIfInBounds_toArray, List.set_cons_zero, List.set_cons_succ])
    refine wpDet_take ?vMf27 (Bl.stays w) (fun _ h => h) (i := 27) rfl (by kernel_rfl) (by kernel_rfl) (by kernel_rfl) (by kernel_rfl) (fun _ _ _ h => h) (Gives.value (by rfl) ?yMf27) ?rMf27
    case yMf27 => (intro w' hSw; (try dsimp only at hSw); go_simp; try with_reducible rfl)
    (try simp only [Act.put, List.getElem_toArray, List.getElem_cons_zero, List.getElem_cons_succ, List.setIfInBounds_toArray, List.set_cons_zero, List.set_cons_succ])
    refine wpDet_done (by kernel_rfl) (fun W3 hV => ?_) _
    go_wp2_with fail
    go_ret
    exact ⟨ret_bool HR.out.symm, hV⟩

end Go.Proofs.Ytmfmjoibofadlaa.M
