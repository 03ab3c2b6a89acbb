/-
  Own text: whether a table is small, whether calls are few.
-/
import Derived.Test.YtnbgdkdnlfomeaaDoorBSm
import Derived.Test.YtnbgdkdnlfomeaaDoorBDet
namespace Go.Proofs.YtnbgdkdnlfomeaaDoor.M
open Go.ChangeShapes Go.WideShapes Go.ChangeAt Go.RowKit Go.ChangeMaps Go.MapKept Go.Maps Go.Shelf Go.Proofs
set_option linter.unusedSimpArgs false

/-- A call's cells. -/
def dooS : Shp Dv where
  cs := fun x => [.int .i64 x.op, .int .i64 x.ep, .int .i64 x.i, .bool x.nr, .int .u8 (bt x.k 0), .int .u8 (bt x.k 1), .int .u8 (bt x.k 2), .int .u8 (bt x.k 3), .int .u8 (bt x.k 4), .int .u8 (bt x.k 5), .int .u8 (bt x.k 6), .int .u8 (bt x.k 7), .string x.s, .int .i64 x.c, .int .i64 x.q, .int .i64 x.x.ix, .int .i64 x.x.ep, .int .u8 (bt x.x.k 0), .int .u8 (bt x.x.k 1), .int .u8 (bt x.x.k 2), .int .u8 (bt x.x.k 3), .int .u8 (bt x.x.k 4), .int .u8 (bt x.x.k 5), .int .u8 (bt x.x.k 6), .int .u8 (bt x.x.k 7), .int .i64 x.x.v, .string x.x.s, .int .i64 x.x.c, .int .i64 x.x.q]
  z := ⟨0, 0, 0, false, 0, ⟨#[]⟩, 0, 0, .z0⟩
  E := 29
  len := fun _ => rfl
  one := fun x v hv => by
    simp only [List.mem_cons, List.not_mem_nil, or_false] at hv
    rcases hv with rfl | rfl | rfl | rfl | rfl | rfl | rfl | rfl | rfl | rfl | rfl | rfl | rfl | rfl | rfl | rfl | rfl | rfl | rfl | rfl | rfl | rfl | rfl | rfl | rfl | rfl | rfl | rfl | rfl <;> rfl
  pos := by decide

def Dv.z0 : Dv := ⟨0, 0, 0, false, 0, ⟨#[]⟩, 0, 0, .z0⟩

theorem doo_at {w : World} {b o : Nat} {x : Dv} (h : ∀ r, r < 29 → w.cell? ⟨b, o + r, none⟩ = some ((dooS.cs x).getD r undef)) : DAt w b o x :=
  ⟨h 0 (by decide), h 1 (by decide), h 2 (by decide), h 3 (by decide), h 4 (by decide), h 5 (by decide), h 6 (by decide), h 7 (by decide), h 8 (by decide), h 9 (by decide), h 10 (by decide), h 11 (by decide), h 12 (by decide), h 13 (by decide), h 14 (by decide), h 15 (by decide), h 16 (by decide), h 17 (by decide), h 18 (by decide), h 19 (by decide), h 20 (by decide), h 21 (by decide), h 22 (by decide), h 23 (by decide), h 24 (by decide), h 25 (by decide), h 26 (by decide), h 27 (by decide), h 28 (by decide)⟩

theorem RdG.dos {w : World} {p : Option Addr} {n c : Nat} {fs : List Dv} (h : RdG dooS w p n c fs) (hn : 0 < n) : ∃ b o, p = some ⟨b, o, none⟩ ∧ ∀ i, i < n → DAt w b (o + i * 29) (fs.getD i .z0) := by
  obtain ⟨b, o, e, hc⟩ := h.at hn
  exact ⟨b, o, e, fun i hi => doo_at (hc i hi)⟩

theorem cell_belowC {w W : World} {p : Addr} {v : Value} (hb : Below w.heap.size w W) (h : w.cell? p = some v) : W.cell? p = some v := (hb.cell (World.block_lt_of_cell? _ _ h)).trans h

/-- The answer is a bool. -/
def IsB (e : Ending) : Prop := ∃ b, e = .returned (.bool b)

/-- The answer is a bool; if it is true, so much is known. -/
def IsBP (p : Prop) (e : Ending) : Prop := ∃ b : Bool, e = .returned (.bool b) ∧ (b = true → p)

set_option maxRecDepth 20000 in
set_option maxHeartbeats 2000000 in
theorem small_any (ix ep : Int) (cp : Option Addr) (cn cc : Nat) (C : List Ce) (dp : Option Addr) (dn dc : Nat) (w : World) (hC : RdG celS w cp cn cc C) (hcn : cn ≤ 9223372036854775807) (hdn : dn ≤ 9223372036854775807) :
    Calls Tryd.prog 9 #[.agg #[.int .i64 ix, .int .i64 ep, .slice cp cn cc, .slice dp dn dc]] w fun e w' => IsBP (cn ≤ 100 ∧ dn ≤ 100) e ∧ Below w.heap.size w w' := by
  have hb0 := below_alloc' w (.cells #[.int .i64 ix, .int .i64 ep, .slice cp cn cc, .slice dp dn dc] 25)
  have hA := At.new 25 w #[.int .i64 ix, .int .i64 ep, .slice cp cn cc, .slice dp dn dc]
  have hC0 := hC.below hb0
  clear hC
  generalize hW : w.alloc (.cells #[.int .i64 ix, .int .i64 ep, .slice cp cn cc, .slice dp dn dc] 25) = W0 at *
  go_enter Tryd.func9, Tryd.ntmps9
  go_wp2_with fail
  clear hW
  go_loopw [3, 4] (fun x i wr => ∃ (k : Nat) (p : Int), k ≤ cn ∧ i = .int .i64 k ∧ x = .int .i64 p ∧ 0 ≤ p ∧ p ≤ 16384 ∧ wr = W0) (fun _ i _ => cn - (intOf i).toNat)
  case atStart => exact ⟨0, 0, Nat.zero_le _, rfl, rfl, by decide, by decide, rfl⟩
  case round =>
    obtain ⟨k, x, hk, rfl, rfl, hx0, hx1, rfl⟩ := hrel
    have a2 := At.cell hA 2
    have a3 := At.cell hA 3
    simp only [List.getElem?_toArray, List.getElem?_cons_zero, List.getElem?_cons_succ] at a2 a3
    have out : (¬ (k < cn ∧ k < 100 ∧ x ≤ 8192)) → Hid (((cn : Int) < 100 ∧ (dn : Int) < 100 ∧ x ≤ 8192) → cn ≤ 100 ∧ dn ≤ 100) := fun _ => by unfold Hid; omega
    by_cases hkn : k < cn
    · have hki : (k : Int) < (cn : Int) := by omega
      by_cases hk1 : (k : Int) < 100
      · by_cases hx8 : x ≤ 8192
        · obtain ⟨bb, o, rfl, hc⟩ := hC0.ces (by omega)
          obtain ⟨_, _, _, _, _, _, _, _, _, c9⟩ := hc k hkn
          generalize (C.getD k .z0).s = s at *
          clear hc hC0 out a3
          go_wp2_with fail
          exact ⟨⟨k + 1, _, by omega, by go_num, rfl, by first | omega | (unfold wrap64; omega) | (simp only [IntKind.wrap_i64]; omega), by first | omega | (unfold wrap64; omega) | (simp only [IntKind.wrap_i64]; omega), trivial⟩, by simp [intOf]; omega⟩
        · clear out
          by_cases hc1 : (cn : Int) < 100
          · by_cases hd1 : (dn : Int) < 100
            · go_wp2_with fail
              go_ret
              exact ⟨⟨_, rfl, fun _ => by omega⟩, hb0⟩
            · go_wp2_with fail
              go_ret
              exact ⟨⟨_, rfl, fun h => by cases h⟩, hb0⟩
          · go_wp2_with fail
            go_ret
            exact ⟨⟨_, rfl, fun h => by cases h⟩, hb0⟩
      · clear out
        have hc1 : ¬ (cn : Int) < 100 := by omega
        go_wp2_with fail
        go_ret
        exact ⟨⟨_, rfl, fun h => by cases h⟩, hb0⟩
    · have hki : ¬ (k : Int) < (cn : Int) := by omega
      clear out
      by_cases hc1 : (cn : Int) < 100
      · by_cases hd1 : (dn : Int) < 100
        · by_cases hx8 : x ≤ 8192
          · go_wp2_with fail
            go_ret
            exact ⟨⟨_, rfl, fun _ => by omega⟩, hb0⟩
          · go_wp2_with fail
            go_ret
            exact ⟨⟨_, rfl, fun h => by cases h⟩, hb0⟩
        · go_wp2_with fail
          go_ret
          exact ⟨⟨_, rfl, fun h => by cases h⟩, hb0⟩
      · go_wp2_with fail
        go_ret
        exact ⟨⟨_, rfl, fun h => by cases h⟩, hb0⟩

set_option maxRecDepth 20000 in
set_option maxHeartbeats 2000000 in
theorem short_any {w : World} {g2 m : Nat} (P : Nat → Option Addr) (N C : Nat → Nat) (D : Nat → List Dv) (hm : m ≤ 1000) (hl : ∀ i, i < m → w.cell? ⟨g2, i, none⟩ = some (.slice (P i) (N i) (C i)) ∧ RdG dooS w (P i) (N i) (C i) (D i)) (hN : ∀ i, i < m → N i ≤ 9223372036854775807) :
    Calls Tryd.prog 10 #[.slice (some ⟨g2, 0, none⟩) m m] w fun e w' => IsBP (∀ i, i < m → N i ≤ 120) e ∧ Below w.heap.size w w' := by
  have HL : Hid (∀ i, i < m → w.cell? ⟨g2, i, none⟩ = some (.slice (P i) (N i) (C i)) ∧ RdG dooS w (P i) (N i) (C i) (D i)) := hl
  have HN : Hid (∀ i, i < m → N i ≤ 9223372036854775807) := hN
  clear hl hN
  go_enter Tryd.func10, Tryd.ntmps10
  go_wp2_with fail
  go_loopw [3, 4, 10] (fun x y i wr => ∃ (k : Nat) (p q : Int), k ≤ m ∧ i = .int .i64 k ∧ x = .int .i64 p ∧ y = .int .i64 q ∧ 0 ≤ p ∧ p ≤ 24576 ∧ 0 ≤ q ∧ q ≤ 121 ∧ Hid (120 < q ∨ 8192 < p ∨ ∀ i, i < k → (N i : Int) ≤ q) ∧ Below w.heap.size w wr) (fun _ _ i _ => m - (intOf i).toNat)
  case atStart => exact ⟨0, 0, 0, Nat.zero_le _, rfl, rfl, rfl, by decide, by decide, by decide, by decide, Or.inr (Or.inr fun i hi => absurd hi (Nat.not_lt_zero _)), Below.refl _ _⟩
  case round =>
    obtain ⟨k, x, y, hk, rfl, rfl, rfl, hx0, hx1, hy0, hy1, HI, hb⟩ := hrel
    by_cases hkn : k < m
    · have hki : (k : Int) < (m : Int) := by omega
      have hl2 := cell_belowC hb (HL.out k hkn).1
      have hrd := (HL.out k hkn).2
      have hnk := HN.out k hkn
      obtain ⟨nk, HNk⟩ : ∃ z, Hid (N k = z) := ⟨_, rfl⟩
      rw [HNk.out] at hl2 hrd hnk
      generalize P k = p at *
      generalize C k = c at *
      generalize D k = l at *
      go_wp2_with fail
      clear hl2
      go_loopw [3, 4, 7] (fun x y i wq => ∃ (j : Nat) (p q : Int), j ≤ nk ∧ i = .int .i64 j ∧ x = .int .i64 p ∧ y = .int .i64 q ∧ 0 ≤ p ∧ p ≤ 24576 ∧ 0 ≤ q ∧ q ≤ 121 ∧ (j : Int) ≤ q ∧ Hid (120 < q ∨ 8192 < p ∨ ∀ i, i < k → (N i : Int) ≤ q) ∧ Below w.heap.size w wq) (fun _ _ i _ => nk - (intOf i).toNat)
      case atStart => exact ⟨0, x, y, Nat.zero_le _, rfl, rfl, rfl, hx0, hx1, hy0, hy1, by omega, HI, hb⟩
      case round =>
        rename_i wk _ _
        clear hb hx0 hx1 hy0 hy1 HI
        obtain ⟨j, x, y, hj, rfl, rfl, rfl, hx0, hx1, hy0, hy1, hjy, HI, hb⟩ := hrel
        have stop : (120 < y ∨ 8192 < x ∨ j = nk) → Hid (120 < y ∨ 8192 < x ∨ ∀ i, i < k + 1 → (N i : Int) ≤ y) := fun h => by
          rcases h with h | h | h
          · exact Or.inl h
          · exact Or.inr (Or.inl h)
          · rcases HI.out with h2 | h2 | h2
            · exact Or.inl h2
            · exact Or.inr (Or.inl h2)
            · refine Or.inr (Or.inr fun i hi => ?_)
              rcases Nat.lt_or_eq_of_le (Nat.le_of_lt_succ hi) with h3 | h3
              · exact h2 i h3
              · rw [h3, HNk.out]; omega
        by_cases hjm : j < nk
        · have hji : (j : Int) < (nk : Int) := by omega
          by_cases hy : y ≤ 120
          · by_cases hx8 : x ≤ 8192
            · obtain ⟨bb, o, rfl, hc⟩ := hrd.dos (by omega)
              have hda := hc j hjm
              generalize l.getD j .z0 = d at *
              have e5 := cell_belowC hb hda.s
              have e26 := cell_belowC hb hda.x11
              have HI2 : Hid (120 < y + 1 ∨ 8192 < x ∨ ∀ i, i < k → (N i : Int) ≤ y + 1) := by
                rcases HI.out with h2 | h2 | h2
                · omega
                · omega
                · exact Or.inr (Or.inr fun i hi => by have := h2 i hi; omega)
              clear hc hda hrd stop HI
              go_wp2_with fail
              have hS0 : Bl wr wr.drew := (Below.refl _ _).drew
              refine wp_region_det [0, 1, 2, 3, 4, 5, 6, 7, 8, 9, 10, 11, 12, 13, 14, 15, 16, 17, 18] (Bl wr) (Bl wr) (by kernel_rfl) hS0 ?_
              refine wpDet_take ?vW0 (Bl.stays wr) (fun _ h => h) (i := 0) rfl (by kernel_rfl) (by kernel_rfl) (by kernel_rfl) (by kernel_rfl) (fun _ _ _ h => h) (Gives.value (by rfl) ?yW0) ?rW0
              case yW0 => (intro w' hSw; (try dsimp only at hSw); go_simp; try with_reducible rfl)
              (try simp only [Act.put, List.getElem_toArray, List.getElem_cons_zero, List.getElem_cons_succ, List.setIfInBounds_toArray, List.set_cons_zero, List.set_cons_succ])
              refine wpDet_take ?vW1 (Bl.stays wr) (fun _ h => h) (i := 1) rfl (by kernel_rfl) (by kernel_rfl) (by kernel_rfl) (by kernel_rfl) (fun _ _ _ h => h) (Gives.value (by rfl) ?yW1) ?rW1
              case yW1 => (intro w' hSw; (try dsimp only at hSw); go_simp; try with_reducible rfl)
              (try simp only [Act.put, List.getElem_toArray, List.getElem_cons_zero, List.getElem_cons_succ, List.setIfInBounds_toArray, List.set_cons_zero, List.set_cons_succ])
              refine wpDet_take ?vW2 (Bl.stays wr) (fun _ h => h) (i := 2) rfl (by kernel_rfl) (by kernel_rfl) (by kernel_rfl) (by kernel_rfl) (fun _ _ _ h => h) (Gives.value (by rfl) ?yW2) ?rW2
              case yW2 => (intro w' hSw; (try dsimp only at hSw); go_simp; try with_reducible rfl)
              (try simp only [Act.put, List.getElem_toArray, List.getElem_cons_zero, List.getElem_cons_succ, List.setIfInBounds_toArray, List.set_cons_zero, List.set_cons_succ])
              refine wpDet_take ?vW3 (Bl.stays wr) (fun _ h => h) (i := 3) rfl (by kernel_rfl) (by kernel_rfl) (by kernel_rfl) (by kernel_rfl) (fun _ _ _ h => h) (Gives.value (by rfl) ?yW3) ?rW3
              case yW3 => (intro w' hSw; (try dsimp only at hSw); go_simp; try with_reducible rfl)
              (try simp only [Act.put, List.getElem_toArray, List.getElem_cons_zero, List.getElem_cons_succ, List.setIfInBounds_toArray, List.set_cons_zero, List.set_cons_succ])
              refine wpDet_take ?vW4 (Bl.stays wr) (fun _ h => h) (i := 4) rfl (by kernel_rfl) (by kernel_rfl) (by kernel_rfl) (by kernel_rfl) (fun _ _ _ h => h) (Gives.value (by rfl) ?yW4) ?rW4
              case yW4 => (intro w' hSw; (try dsimp only at hSw); go_simp; try with_reducible rfl)
              (try simp only [Act.put, List.getElem_toArray, List.getElem_cons_zero, List.getElem_cons_succ, List.setIfInBounds_toArray, List.set_cons_zero, List.set_cons_succ])
              refine wpDet_take ?vW5 (Bl.stays wr) (fun _ h => h) (i := 5) rfl (by kernel_rfl) (by kernel_rfl) (by kernel_rfl) (by kernel_rfl) (fun _ _ _ h => h) (Gives.value (by rfl) ?yW5) ?rW5
              case yW5 => (intro w' hSw; have d5 := cell_belowC (Bl.out hSw) e5; have d26 := cell_belowC (Bl.out hSw) e26; (try dsimp only at hSw); go_simp; try with_reducible rfl)
              (try simp only [Act.put, List.getElem_toArray, List.getElem_cons_zero, List.getElem_cons_succ, List.setIfInBounds_toArray, List.set_cons_zero, List.set_cons_succ])
              refine wpDet_take ?vW6 (Bl.stays wr) (fun _ h => h) (i := 6) rfl (by kernel_rfl) (by kernel_rfl) (by kernel_rfl) (by kernel_rfl) (fun _ _ _ h => h) (Gives.value (by rfl) ?yW6) ?rW6
              case yW6 => (intro w' hSw; have d5 := cell_belowC (Bl.out hSw) e5; have d26 := cell_belowC (Bl.out hSw) e26; (try dsimp only at hSw); go_simp; try with_reducible rfl)
              (try simp only [Act.put, List.getElem_toArray, List.getElem_cons_zero, List.getElem_cons_succ, List.setIfInBounds_toArray, List.set_cons_zero, List.set_cons_succ])
              refine wpDet_take ?vW7 (Bl.stays wr) (fun _ h => h) (i := 7) rfl (by kernel_rfl) (by kernel_rfl) (by kernel_rfl) (by kernel_rfl) (fun _ _ _ h => h) (Gives.value (by rfl) ?yW7) ?rW7
              case yW7 => (intro w' hSw; have d5 := cell_belowC (Bl.out hSw) e5; have d26 := cell_belowC (Bl.out hSw) e26; (try dsimp only at hSw); go_simp; try with_reducible rfl)
              (try simp only [Act.put, List.getElem_toArray, List.getElem_cons_zero, List.getElem_cons_succ, List.setIfInBounds_toArray, List.set_cons_zero, List.set_cons_succ])
              refine wpDet_take ?vW8 (Bl.stays wr) (fun _ h => h) (i := 8) rfl (by kernel_rfl) (by kernel_rfl) (by kernel_rfl) (by kernel_rfl) (fun _ _ _ h => h) (Gives.value (by rfl) ?yW8) ?rW8
              case yW8 => (intro w' hSw; (try dsimp only at hSw); go_simp; try with_reducible rfl)
              (try simp only [Act.put, List.getElem_toArray, List.getElem_cons_zero, List.getElem_cons_succ, List.setIfInBounds_toArray, List.set_cons_zero, List.set_cons_succ])
              refine wpDet_take ?vW9 (Bl.stays wr) (fun _ h => h) (i := 9) rfl (by kernel_rfl) (by kernel_rfl) (by kernel_rfl) (by kernel_rfl) (fun _ _ _ h => h) (Gives.value (by rfl) ?yW9) ?rW9
              case yW9 => (intro w' hSw; (try dsimp only at hSw); go_simp; try with_reducible rfl)
              (try simp only [Act.put, List.getElem_toArray, List.getElem_cons_zero, List.getElem_cons_succ, List.setIfInBounds_toArray, List.set_cons_zero, List.set_cons_succ])
              refine wpDet_take ?vW10 (Bl.stays wr) (fun _ h => h) (i := 10) rfl (by kernel_rfl) (by kernel_rfl) (by kernel_rfl) (by kernel_rfl) (fun _ _ _ h => h) (Gives.value (by rfl) ?yW10) ?rW10
              case yW10 => (intro w' hSw; (try dsimp only at hSw); go_simp; try with_reducible rfl)
              (try simp only [Act.put, List.getElem_toArray, List.getElem_cons_zero, List.getElem_cons_succ, List.setIfInBounds_toArray, List.set_cons_zero, List.set_cons_succ])
              refine wpDet_take ?vW11 (Bl.stays wr) (fun _ h => h) (i := 11) rfl (by kernel_rfl) (by kernel_rfl) (by kernel_rfl) (by kernel_rfl) (fun _ _ _ h => h) (Gives.value (by rfl) ?yW11) ?rW11
              case yW11 => (intro w' hSw; (try dsimp only at hSw); go_simp; try with_reducible rfl)
              (try simp only [Act.put, List.getElem_toArray, List.getElem_cons_zero, List.getElem_cons_succ, List.setIfInBounds_toArray, List.set_cons_zero, List.set_cons_succ])
              refine wpDet_take ?vW12 (Bl.stays wr) (fun _ h => h) (i := 12) rfl (by kernel_rfl) (by kernel_rfl) (by kernel_rfl) (by kernel_rfl) (fun _ _ _ h => h) (Gives.value (by rfl) ?yW12) ?rW12
              case yW12 => (intro w' hSw; (try dsimp only at hSw); go_simp; try with_reducible rfl)
              (try simp only [Act.put, List.getElem_toArray, List.getElem_cons_zero, List.getElem_cons_succ, List.setIfInBounds_toArray, List.set_cons_zero, List.set_cons_succ])
              refine wpDet_take ?vW13 (Bl.stays wr) (fun _ h => h) (i := 13) rfl (by kernel_rfl) (by kernel_rfl) (by kernel_rfl) (by kernel_rfl) (fun _ _ _ h => h) (Gives.value (by rfl) ?yW13) ?rW13
              case yW13 => (intro w' hSw; have d5 := cell_belowC (Bl.out hSw) e5; have d26 := cell_belowC (Bl.out hSw) e26; (try dsimp only at hSw); go_simp; try with_reducible rfl)
              (try simp only [Act.put, List.getElem_toArray, List.getElem_cons_zero, List.getElem_cons_succ, List.setIfInBounds_toArray, List.set_cons_zero, List.set_cons_succ])
              refine wpDet_take ?vW14 (Bl.stays wr) (fun _ h => h) (i := 14) rfl (by kernel_rfl) (by kernel_rfl) (by kernel_rfl) (by kernel_rfl) (fun _ _ _ h => h) (Gives.value (by rfl) ?yW14) ?rW14
              case yW14 => (intro w' hSw; have d5 := cell_belowC (Bl.out hSw) e5; have d26 := cell_belowC (Bl.out hSw) e26; (try dsimp only at hSw); go_simp; try with_reducible rfl)
              (try simp only [Act.put, List.getElem_toArray, List.getElem_cons_zero, List.getElem_cons_succ, List.setIfInBounds_toArray, List.set_cons_zero, List.set_cons_succ])
              refine wpDet_take ?vW15 (Bl.stays wr) (fun _ h => h) (i := 15) rfl (by kernel_rfl) (by kernel_rfl) (by kernel_rfl) (by kernel_rfl) (fun _ _ _ h => h) (Gives.value (by rfl) ?yW15) ?rW15
              case yW15 => (intro w' hSw; have d5 := cell_belowC (Bl.out hSw) e5; have d26 := cell_belowC (Bl.out hSw) e26; (try dsimp only at hSw); go_simp; try with_reducible rfl)
              (try simp only [Act.put, List.getElem_toArray, List.getElem_cons_zero, List.getElem_cons_succ, List.setIfInBounds_toArray, List.set_cons_zero, List.set_cons_succ])
              refine wpDet_take ?vW16 (Bl.stays wr) (fun _ h => h) (i := 16) rfl (by kernel_rfl) (by kernel_rfl) (by kernel_rfl) (by kernel_rfl) (fun _ _ _ h => h) (Gives.value (by rfl) ?yW16) ?rW16
              case yW16 => (intro w' hSw; (try dsimp only at hSw); go_simp; try with_reducible rfl)
              (try simp only [Act.put, List.getElem_toArray, List.getElem_cons_zero, List.getElem_cons_succ, List.setIfInBounds_toArray, List.set_cons_zero, List.set_cons_succ])
              refine wpDet_take ?vW17 (Bl.stays wr) (fun _ h => h) (i := 17) rfl (by kernel_rfl) (by kernel_rfl) (by kernel_rfl) (by kernel_rfl) (fun _ _ _ h => h) (Gives.value (by rfl) ?yW17) ?rW17
              case yW17 => (intro w' hSw; (try dsimp only at hSw); go_simp; try with_reducible rfl)
              (try simp only [Act.put, List.getElem_toArray, List.getElem_cons_zero, List.getElem_cons_succ, List.setIfInBounds_toArray, List.set_cons_zero, List.set_cons_succ])
              refine wpDet_take ?vW18 (Bl.stays wr) (fun _ h => h) (i := 18) rfl (by kernel_rfl) (by kernel_rfl) (by kernel_rfl) (by kernel_rfl) (fun _ _ _ h => h) (Gives.value (by rfl) ?yW18) ?rW18
              case yW18 => (intro w' hSw; (try dsimp only at hSw); go_simp; try with_reducible rfl)
              (try simp only [Act.put, List.getElem_toArray, List.getElem_cons_zero, List.getElem_cons_succ, List.setIfInBounds_toArray, List.set_cons_zero, List.set_cons_succ])
              refine wpDet_done (by kernel_rfl) (fun W9 hV => ?_) _
              have hb9 := hb.trans ((Bl.out hV).mono hb.size)
              clear hV e5 e26 hS0 hb
              go_wp2_with fail
              refine ⟨⟨j + 1, _, y + 1, by omega, by go_num, rfl, rfl, ?_, ?_, by omega, by omega, by omega, ?_, hb9⟩, by simp [intOf]; omega⟩
              · first | omega | (simp only [IntKind.wrap_i64]; omega)
              · first | omega | (simp only [IntKind.wrap_i64]; omega)
              · rcases HI2.out with h2 | h2 | h2
                · exact Or.inl h2
                · omega
                · exact Or.inr (Or.inr h2)
            · have hst := stop (Or.inr (Or.inl (by omega)))
              clear stop HI hrd
              go_wp2_with fail
              exact ⟨⟨k + 1, x, y, by omega, by go_num, rfl, rfl, hx0, hx1, hy0, hy1, hst, hb⟩, by simp [intOf]; omega⟩
          · have hst := stop (Or.inl (by omega))
            clear stop HI hrd
            go_wp2_with fail
            exact ⟨⟨k + 1, x, y, by omega, by go_num, rfl, rfl, hx0, hx1, hy0, hy1, hst, hb⟩, by simp [intOf]; omega⟩
        · have hst := stop (Or.inr (Or.inr (by omega)))
          have hji : ¬ (j : Int) < (nk : Int) := by omega
          clear stop HI hrd
          go_wp2_with fail
          exact ⟨⟨k + 1, x, y, by omega, by go_num, rfl, rfl, hx0, hx1, hy0, hy1, hst, hb⟩, by simp [intOf]; omega⟩
    · have hki : ¬ (k : Int) < (m : Int) := by omega
      obtain rfl : k = m := by omega
      by_cases hq : y ≤ 120
      · by_cases hx8 : x ≤ 8192
        · go_wp2_with fail
          go_ret
          refine ⟨⟨_, rfl, fun _ i hi => ?_⟩, hb⟩
          rcases HI.out with h2 | h2 | h2
          · omega
          · omega
          · have := h2 i hi
            omega
        · go_wp2_with fail
          go_ret
          exact ⟨⟨_, rfl, fun h => by cases h⟩, hb⟩
      · go_wp2_with fail
        go_ret
        exact ⟨⟨_, rfl, fun h => by cases h⟩, hb⟩

end Go.Proofs.YtnbgdkdnlfomeaaDoor.M
