/-
  Own text: slices.Delete of one message, laid out of the library's shelf.
-/
import Derived.Test.YtmnipfdcbmamnaaNAdd
import Derived.Shelf.Slices.Cells
namespace Go.Proofs.Ytmnipfdcbmamnaa.M
open Go.ChangeShapes Go.WideShapes Go.ChangeAt Go.RowKit Go.ChangeMaps Go.MapKept Go.Maps Go.Shelf Go.Proofs

/-- The shelf's numbers in this program. -/
def renD : Ren := ⟨fun _ => 57, fun x => if x = 0 then 0 else if x = 3 then 3 else if x = 4 then 4 else if x = 9 then 9 else 75, fun x => x⟩

theorem laysD : Lays2.n24 Try.prog renD where
  mixed := by kernel_rfl
  f24 := by kernel_rfl
  t0 := Try.underlying0
  a0 := Try.isAgg0
  z0 := Try.sizeOf0
  v0 := Try.zeroValue0
  t3 := Try.underlying3
  a3 := Try.isAgg3
  z3 := Try.sizeOf3
  v3 := Try.zeroValue3
  t4 := Try.underlying4
  a4 := Try.isAgg4
  z4 := Try.sizeOf4
  v4 := Try.zeroValue4
  t9 := Try.underlying9
  a9 := Try.isAgg9
  z9 := Try.sizeOf9
  v9 := Try.zeroValue9
  t24 := Try.underlying75
  a24 := Try.isAgg75
  z24 := Try.sizeOf75
  v24 := Try.zeroValue75
  i9 := by kernel_rfl

theorem heap_setCs (g : Nat) : ∀ (vs : List Value) (o : Nat) (w : World) (cs : Array Value) (t : TypeId), w.heap[g]? = some (.cells cs t) → o + vs.length ≤ cs.size →
    ∃ cs', (w.setCells g o vs).heap[g]? = some (.cells cs' t) ∧ cs'.size = cs.size ∧ cs'.toList = cs.toList.take o ++ vs ++ cs.toList.drop (o + vs.length)
  | [], o, w, cs, t, h, _ => ⟨cs, h, rfl, by simp⟩
  | v :: r, o, w, cs, t, h, hl => by
    rw [List.length_cons] at hl
    have h1 := heap_setCell_same w g o _ _ v h
    obtain ⟨cs', h2, h3, h4⟩ := heap_setCs g r (o + 1) (w.setCell ⟨g, o, none⟩ v) (cs.setIfInBounds o v) t h1 (by simp; omega)
    refine ⟨cs', by rw [World.setCells]; exact h2, by rw [h3]; simp, ?_⟩
    rw [h4, Array.toList_setIfInBounds]
    have ho : o < cs.toList.length := by simp; omega
    have e1 : (cs.toList.set o v).take (o + 1) = cs.toList.take o ++ [v] := by
      rw [List.take_add_one, List.getElem?_set_self ho, List.take_set_of_le (Nat.le_refl o)]
      rfl
    have e2 : (cs.toList.set o v).drop (o + 1 + r.length) = cs.toList.drop (o + (v :: r).length) := by
      rw [List.drop_set_of_lt (by omega), List.length_cons, show o + 1 + r.length = o + (r.length + 1) by omega]
    rw [e1, e2]
    simp

theorem enc_str (s : ByteArray) : encStr s.data.toList = .string s := by
  cases s
  simp [encStr]

set_option maxHeartbeats 1000000 in
theorem del_any (w : World) (B r cap : Nat) (l : List ByteArray) (ho : w.ownsRow B 9 1 (.slice (some ⟨r, 0, none⟩) l.length cap) l.length (l.map .string)) (i : Nat) (hi : i < l.length) (hl : l.length ≤ 1000) :
    Calls Try.prog 57 #[.slice (some ⟨r, 0, none⟩) l.length cap, .int .i64 i, .int .i64 ((i : Int) + 1)] w fun e w' => e = .returned (.slice (some ⟨r, 0, none⟩) (l.length - 1) cap) ∧ w'.ownsRow B 9 1 (.slice (some ⟨r, 0, none⟩) (l.length - 1) cap) (l.length - 1) ((l.eraseIdx i).map .string) ∧ Ex r w w' := by
  have hcl := World.ownsRow.cells ho rfl
  rcases ho.2 with ⟨h0, _⟩ | ⟨g', cap', cur, hv, hg, hh, hc, hcm, hcs, htk⟩
  · cases h0
  injection hv with e1 _ e3
  injection e1 with e1
  injection e1 with e1
  subst e1 e3
  have hca : ∀ j, j < l.length → w.cell? ⟨r, 0 + j, none⟩ = some (.string (l.getD j ByteArray.empty)) := fun j hj => by
    have := hcl j (.string (l.getD j ByteArray.empty)) (by rw [List.getElem?_map, List.getElem?_eq_getElem hj, List.getD_eq_getElem?_getD, List.getElem?_eq_getElem hj]; rfl)
    rw [Addr.add_lit] at this
    exact this
  have hfz : ∀ j, j < l.length → w.frozen? ⟨r, 0 + j, none⟩ = false := fun j _ => frozen_of_row w r (0 + j) _ _ hh
  have hD := Any.slices_Delete_string_cells laysD r 0 l.length cap i (i + 1) (fun j => l.getD j ByteArray.empty) w hc (by unfold maxLen at hcm; omega) (by omega) (by omega) hca hfz
  rw [show i + 1 - i = 1 by omega, show ((i + 1 : Nat) : Int) = (i : Int) + 1 by omega] at hD
  refine hD.mono ?_
  rintro e w' ⟨rfl, q, rfl⟩
  have hst : Lib.strsOf (fun j => l.getD j ByteArray.empty) l.length = l.map (fun s => s.data.toList) := by
    unfold Lib.strsOf
    apply List.ext_getElem?
    intro j
    by_cases hj : j < l.length
    · simp [hj]
    · rw [List.getElem?_eq_none (by simp; omega), List.getElem?_eq_none (by simp; omega)]
  have hvs : ((Lib.strsOf (fun j => l.getD j ByteArray.empty) l.length).take i ++ (Lib.strsOf (fun j => l.getD j ByteArray.empty) l.length).drop (i + 1) ++ List.replicate 1 []).map encStr = (l.eraseIdx i).map .string ++ [.string ⟨#[]⟩] := by
    rw [hst, List.eraseIdx_eq_take_drop_succ, List.map_append, List.map_append, List.map_append, List.map_take, List.map_drop, List.map_map, List.map_take, List.map_drop]
    have e : (encStr ∘ fun s : ByteArray => s.data.toList) = Value.string := by funext s; exact enc_str s
    rw [e]
    rfl
  rw [hvs]
  have hel : ((l.eraseIdx i).map Value.string ++ [Value.string ⟨#[]⟩]).length = l.length := by
    rw [List.length_append, List.length_map, List.length_eraseIdx, if_pos hi]
    simp
    omega
  have hlen1 : ((l.eraseIdx i).map Value.string).length = l.length - 1 := by rw [List.length_map, List.length_eraseIdx, if_pos hi]
  obtain ⟨cs', k1, k2, k3⟩ := heap_setCs r ((l.eraseIdx i).map .string ++ [.string ⟨#[]⟩]) 0 (w.drewN q) cur 9 hh (by rw [hel]; omega)
  refine ⟨rfl, ⟨by rw [hlen1]; omega, Or.inr ⟨r, cap, cs', rfl, hg, k1, by omega, hcm, by rw [k2]; exact hcs, ?_⟩⟩, Ex.setC _ 0 _ ((Ex.refl _ _).drewN q)⟩
  rw [k3, List.take_zero, List.nil_append, List.append_assoc, List.take_append_of_le_length (by rw [hlen1]; omega), List.take_of_length_le (by rw [hlen1]; omega)]

end Go.Proofs.Ytmnipfdcbmamnaa.M
