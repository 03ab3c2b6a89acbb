/-
  Own text: calls that may be, with sets of them: the contract of pastOf.
-/
import Derived.Test.YtmfmjoibofadlaaOBeh
import Derived.Test.YtmfmjoibofadlaaZArr
import Derived.Laws.MakeOwn
namespace Go.Proofs.Ytmfmjoibofadlaa.M
open Go.ChangeShapes Go.WideShapes Go.ChangeAt Go.RowKit
set_option linter.unusedSimpArgs false

theorem wp_store_cell {P : Program} {op : Oper} {a : Act} {w : World} {K : Act → World → Prop} {Q : Exit → Act → World → Prop} (ty : TypeId) (x y : Operand) (ho : op.op = .store ty x y) (b o : Nat) (k : IntKind) (v : Int) (u : Value)
    (hx : a.eval x = .pointer (some ⟨b, o, none⟩)) (hy : a.eval y = .int k v) (hsz : (P.info? ty).map (·.size) = some 1) (hc : w.cell? ⟨b, o, none⟩ = some u) (hf : w.frozen? ⟨b, o, none⟩ = false)
    (h : K (a.put op.dst undef) (w.setCell ⟨b, o, none⟩ (.int k v))) : op.wp P a w K Q := by
  have hrun : (storeVar ty ⟨b, o, none⟩ (.int k v)).run P w = .ok () (w.setCell ⟨b, o, none⟩ (.int k v)) := by
    have := run_storeCells_cells (P := P) b o [.int k v] 0 w (fun j hj => by
        match j, hj with
        | 0, _ => rw [Nat.add_zero, hc]; rfl) (fun j hj => by
        match j, hj with
        | 0, _ => exact hf) (fun u hu => by rw [List.mem_singleton.1 hu]; rfl)
    cases hq : P.info? ty with
    | none => simp [hq] at hsz
    | some i =>
      have hs : i.size = 1 := by simpa [hq] using hsz
      simp only [Nat.add_zero] at this
      simp [storeVar, sizeOf, typeInfo, hq, Value.cells, hs, this, World.setCells]
  unfold Oper.wp execOp
  simp only [ho, hx, hy, Instr.storeAt, Instr.sureAddr, Sem.run_bind, Sem.run_pure, Result.andThen_ok, hrun]
  exact h

theorem sizeSet : (Try.prog.info? 51).map (·.size) = some 1 := by kernel_rfl

theorem At.setC {t : TypeId} {w : World} {g : Nat} {cs : Array Value} (h : At t w g cs) (i : Nat) (v : Value) : At t (w.setCell ⟨g, i, none⟩ v) g (cs.setIfInBounds i v) := heap_setCell_same w g i _ _ v h

theorem At.otherC {t : TypeId} {w : World} {g : Nat} {cs : Array Value} (h : At t w g cs) (b i : Nat) (v : Value) (hne : b ≠ g) : At t (w.setCell ⟨b, i, none⟩ v) g cs := by
  unfold At
  rw [Below.heap_setCell _ _ _ _ (by simpa using fun e => hne e.symm)]
  exact h

theorem At.belowB {t : TypeId} {w w' : World} {B g : Nat} {cs : Array Value} (h : At t w g cs) (hb : Below B w w') (hg : g < B) : At t w' g cs := by
  unfold At
  rw [hb.block g hg]
  exact h

/-- All that stood is as it was, but a set in a row. -/
def BS (w : World) (g k y : Nat) (W : World) : Prop := ∃ V, Below w.heap.size w V ∧ Below V.heap.size (V.setCell ⟨g, k, none⟩ (.int .u64 (y : Int))) W

theorem BS.stays (w : World) (g k y : Nat) : Stays (BS w g k y) := fun W W' ⟨V, h1, h2⟩ hb => ⟨V, h1, h2.trans (hb.mono (by have := h2.size; simpa using this))⟩

/-- Whether a call ended ahead of another one's beginning. -/
def ahd (a b : Lo) : Bool := a.ans && decide (a.e < b.b)

set_option maxRecDepth 20000 in
theorem ahead_any (a b : Lo) (w : World) : Calls Try.prog 48 #[.agg #[.bool a.w, .string a.s, .int .i64 a.v, .int .i64 a.b, .int .i64 a.e], .agg #[.bool b.w, .string b.s, .int .i64 b.v, .int .i64 b.b, .int .i64 b.e]] w fun e w' => e = .returned (.bool (ahd a b)) ∧ Below w.heap.size w w' := by
  have cA := fun W => answered_any a W
  have hb1 := below_alloc w (.cells #[.bool a.w, .string a.s, .int .i64 a.v, .int .i64 a.b, .int .i64 a.e] 29)
  have hb2 := below_alloc (w.alloc (.cells #[.bool a.w, .string a.s, .int .i64 a.v, .int .i64 a.b, .int .i64 a.e] 29)) (.cells #[.bool b.w, .string b.s, .int .i64 b.v, .int .i64 b.b, .int .i64 b.e] 29)
  have hbb := hb1.trans (hb2.mono hb1.size)
  have hA := (Bx.new w a 29).below hb2
  have hB := Bx.new (w.alloc (.cells #[.bool a.w, .string a.s, .int .i64 a.v, .int .i64 a.b, .int .i64 a.e] 29)) b 29
  have hs1 : (w.alloc (.cells #[.bool a.w, .string a.s, .int .i64 a.v, .int .i64 a.b, .int .i64 a.e] 29)).heap.size = w.heap.size + 1 := by simp
  rw [hs1] at hB
  unfold ahd
  generalize a.ans = z at *
  obtain ⟨aw, az, av, ab, ae⟩ := a
  obtain ⟨bw, bz, bv, bb, be⟩ := b
  dsimp only at *
  clear hb1 hb2 hs1
  go_enter Try.func48, Try.ntmps48
  go_wp2_with fail
  refine (cA _).mono ?_
  rintro e w1 ⟨rfl, hb3⟩
  obtain ⟨y0, y1, y2, y3, y4⟩ := hA.below hb3
  obtain ⟨z0, z1, z2, z3, z4⟩ := hB.below hb3
  have hb4 := hbb.trans (hb3.mono hbb.size)
  clear cA hA hB hbb hb3
  dsimp only at y0 y1 y2 y3 y4 z0 z1 z2 z3 z4
  cases z with
  | true =>
    go_wp2_with fail
    go_ret
    exact ⟨rfl, hb4⟩
  | false =>
    go_wp2_with fail
    go_ret
    exact ⟨rfl, hb4⟩

/-- Those of the first k that were answered. -/
def musN (L : List Lo) : Nat → Nat
  | 0 => 0
  | k + 1 => if (L.getD k .z0).ans = true then musN L k ||| bitN (k : Int) else musN L k

/-- Those of the first j that ended ahead of one's beginning. -/
def ahN (L : List Lo) (o : Lo) : Nat → Nat
  | 0 => 0
  | j + 1 => if ahd (L.getD j .z0) o = true then ahN L o j ||| bitN (j : Int) else ahN L o j

theorem musN_lt (L : List Lo) : ∀ k, musN L k < 18446744073709551616
  | 0 => by show (0 : Nat) < 18446744073709551616; decide
  | k + 1 => by
    unfold musN
    split
    · exact or_lt64 (musN_lt L k) (bitN_lt _)
    · exact musN_lt L k

theorem ahN_lt (L : List Lo) (o : Lo) : ∀ k, ahN L o k < 18446744073709551616
  | 0 => by show (0 : Nat) < 18446744073709551616; decide
  | k + 1 => by
    unfold ahN
    split
    · exact or_lt64 (ahN_lt L o k) (bitN_lt _)
    · exact ahN_lt L o k

/-- Of the first k calls those that ended ahead; of number k of the first j. -/
def ahP (L : List Lo) (n k j : Nat) : List Int := (List.range n).map fun i => if i < k then (ahN L (L.getD i .z0) n : Int) else if i = k then (ahN L (L.getD i .z0) j : Int) else 0

def ahL (L : List Lo) : List Int := (List.range L.length).map fun i => (ahN L (L.getD i .z0) L.length : Int)

theorem ahP_len (L : List Lo) (n k j : Nat) : (ahP L n k j).length = n := by simp [ahP]

theorem ahP_get (L : List Lo) {n k j : Nat} (h : k < n) : (ahP L n k j).getD k 0 = (ahN L (L.getD k .z0) j : Int) := by
  rw [List.getD_eq_getElem?_getD, ahP, List.getElem?_map, List.getElem?_range h]
  simp

theorem ahP_set (L : List Lo) {n k j x : Nat} (hx : x = ahN L (L.getD k .z0) (j + 1)) : (ahP L n k j).set k (x : Int) = ahP L n k (j + 1) := by
  subst hx
  apply List.ext_getElem
  · simp [ahP]
  · intro i h1 h2
    rw [List.getElem_set]
    simp only [ahP, List.getElem_map, List.getElem_range]
    by_cases e : k = i
    · subst e
      rw [if_pos rfl, if_neg (Nat.lt_irrefl k), if_pos rfl]
    · rw [if_neg e]
      by_cases h : i < k
      · rw [if_pos h, if_pos h]
      · rw [if_neg h, if_neg h, if_neg (fun h => e h.symm), if_neg (fun h => e h.symm)]

theorem ahP_same (L : List Lo) {n k j : Nat} (h : ahN L (L.getD k .z0) (j + 1) = ahN L (L.getD k .z0) j) : ahP L n k (j + 1) = ahP L n k j := by
  unfold ahP
  apply List.map_congr_left
  intro i _
  by_cases e : i = k
  · subst e; rw [h]
  · rw [if_neg e, if_neg e]

theorem ahP_next (L : List Lo) (n k : Nat) : ahP L n k n = ahP L n (k + 1) 0 := by
  unfold ahP
  apply List.map_congr_left
  intro i _
  by_cases h1 : i < k
  · rw [if_pos h1, if_pos (by omega)]
  · by_cases e : i = k
    · subst e; rw [if_neg h1, if_pos rfl, if_pos (by omega)]
    · rw [if_neg h1, if_neg e, if_neg (by omega)]
      split
      · rfl
      · rfl

theorem ahP_zero (L : List Lo) (n : Nat) : ahP L n 0 0 = List.replicate n 0 := by
  apply List.ext_getElem
  · simp [ahP]
  · intro i h1 h2
    simp [ahP, ahN]

theorem ahP_end {L : List Lo} {n : Nat} (h : L.length = n) : ahP L n n 0 = ahL L := by
  unfold ahP ahL
  rw [h]
  apply List.map_congr_left
  intro i hi
  rw [if_pos (List.mem_range.1 hi)]

theorem ahL_wd (L : List Lo) : Wd (ahL L) := fun x hx => by
  unfold ahL at hx
  obtain ⟨i, _, rfl⟩ := List.mem_map.1 hx
  have := ahN_lt L (L.getD i .z0) L.length
  omega

theorem made_sets (n : Nat) : madeCells (Value.int .u64 0).cells (n * 1) = nums .u64 (List.replicate n 0) := by
  rw [Nat.mul_one]
  apply Array.ext
  · simp [madeCells, nums]
  · intro i h1 h2
    simp [madeCells, nums, Value.cells, Nat.mod_one]

end Go.Proofs.Ytmfmjoibofadlaa.M
