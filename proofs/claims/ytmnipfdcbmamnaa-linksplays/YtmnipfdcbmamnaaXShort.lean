/-
  Own text: that short answers, of one list; and yes only of bytes that are few.
-/
import Derived.Test.YtmnipfdcbmamnaaNCnt
import Derived.Test.YtmnipfdcbmamnaaNBus3
namespace Go.Proofs.Ytmnipfdcbmamnaa.M
open Go.ChangeShapes Go.WideShapes Go.ChangeAt Go.RowKit

/-- Few bytes each. -/
def BlF (ls : List Nd) (j : Nat) : Prop := ∀ t, t < j → (ls.getD t .z0).bl ≤ 16384

theorem BlF.zero (ls : List Nd) : BlF ls 0 := fun _ h => absurd h (Nat.not_lt_zero _)

theorem BlF.next {ls : List Nd} {j bl : Nat} (h : BlF ls j) (hb : (ls.getD j .z0).bl = bl) (hl : bl ≤ 16384) : BlF ls (j + 1) := fun t ht => by
  rcases Nat.lt_or_ge t j with h2 | h2
  · exact h t h2
  · obtain rfl : t = j := by omega
    omega

/-- Some answer; yes only of few. -/
def ShB (ls : List Nd) (n : Nat) (e : Ending) : Prop := ∃ b, e = .returned (.bool b) ∧ (b = true → n ≤ 150 ∧ BlF ls n)

/-- Ahead of the list, or behind it. -/
def OSb (ls : List Nd) (n k : Nat) (p q : Int) : Prop := (k = 0 → p = 0 ∧ q = 0) ∧ (k = 1 → p ≤ 16384 → q ≤ 150 → n ≤ 150 ∧ BlF ls n)

set_option maxRecDepth 20000 in
set_option maxHeartbeats 2000000 in
theorem short_bytes (w : World) (b2 : Nat) (p : Option Addr) (n c : Nat) (ls : List Nd) (h2 : w.cell? ⟨b2, 0, none⟩ = some (.slice p n c)) (hr : RdN w p n c ls) :
    Calls Try.prog 6 #[.slice (some ⟨b2, 0, none⟩) 1 1] w fun e w' => ShB ls n e ∧ Below w.heap.size w w' := by
  go_enter Try.func6, Try.ntmps6
  go_wp2_with fail
  go_loopw [3, 4, 10] (fun x y i wr => ∃ (k : Nat) (x1 y1 : Int), k ≤ 1 ∧ i = .int .i64 k ∧ x = .int .i64 x1 ∧ y = .int .i64 y1 ∧ OSb ls n k x1 y1 ∧ Below w.heap.size w wr) (fun _ _ i _ => 1 - (intOf i).toNat)
  case atStart => exact ⟨0, 0, 0, Nat.zero_le _, rfl, rfl, rfl, ⟨fun _ => ⟨rfl, rfl⟩, (fun h => by cases h)⟩, Below.refl _ _⟩
  case round =>
    obtain ⟨k, x, y, hk, rfl, rfl, rfl, hS, hb⟩ := hrel
    by_cases hk1 : k < 1
    · obtain rfl : k = 0 := by omega
      have g2 : wr.cell? ⟨b2, 0, none⟩ = some (.slice p n c) := by rw [hb.cell (p := ⟨b2, 0, none⟩) (World.block_lt_of_cell? _ _ h2)]; exact h2
      obtain ⟨rfl, rfl⟩ := hS.1 rfl
      clear hS
      go_wp2_with fail
      go_loopw [3, 4, 7] (fun x y i wq => ∃ (j : Nat) (x1 : Int), j ≤ n ∧ j ≤ 151 ∧ 0 ≤ x1 ∧ x1 ≤ 32769 ∧ i = .int .i64 j ∧ x = .int .i64 x1 ∧ y = .int .i64 j ∧ (x1 ≤ 16384 → BlF ls j) ∧ Below w.heap.size w wq) (fun _ _ i _ => n - (intOf i).toNat)
      case atStart => exact ⟨0, 0, Nat.zero_le _, by decide, by decide, by decide, rfl, rfl, rfl, fun _ => BlF.zero ls, hb⟩
      case round =>
        clear hb
        obtain ⟨j, x, hj, hj1, hx0, hx1, rfl, rfl, rfl, hBl, hb⟩ := hrel
        by_cases hjn : j < n
        · have hji : (j : Int) < (n : Int) := by omega
          by_cases hq : j ≤ 150
          · have hqi : (j : Int) ≤ 150 := by omega
            by_cases hp : x ≤ 16384
            · obtain ⟨gb, go, rfl, gc⟩ := hr.cells (by omega)
              have g4 := (gc j hjn).2.2.2.2.1
              have g5 := hb.cell (World.block_lt_of_cell? _ _ g4)
              rw [g4] at g5
              clear gc g4
              generalize (ls.getD j .z0).bq = bq at *
              obtain ⟨bl, Hbl⟩ : ∃ z, Hid ((ls.getD j .z0).bl = z) := ⟨_, rfl⟩
              rw [Hbl.out] at g5
              have HB2 : Hid (x ≤ 16384 → BlF ls j) := hBl
              clear hBl
              generalize (ls.getD j .z0).bc = bc at *
              have hmn : 0 ≤ min (bl : Int) 16385 ∧ min (bl : Int) 16385 ≤ 16385 := ⟨by omega, by omega⟩
              go_wp2_with fail
              exact ⟨⟨j + 1, x + min (bl : Int) 16385, by omega, by omega, by omega, by omega, by go_num, rfl, by go_num, fun hx2 => (HB2.out (by omega)).next Hbl.out (by omega), hb⟩, by simp [intOf]; omega⟩
            · go_wp2_with fail
              exact ⟨⟨1, x, _, Nat.le_refl _, rfl, rfl, rfl, ⟨(fun h => by cases h), fun _ h _ => absurd h hp⟩, hb⟩, by simp [intOf]⟩
          · have hqi : ¬ (j : Int) ≤ 150 := by omega
            go_wp2_with fail
            exact ⟨⟨1, x, _, Nat.le_refl _, rfl, rfl, rfl, ⟨(fun h => by cases h), fun _ _ h => absurd h hqi⟩, hb⟩, by simp [intOf]⟩
        · obtain rfl : j = n := by omega
          have HB3 : Hid (x ≤ 16384 → BlF ls j) := hBl
          clear hBl
          go_wp2_with fail
          exact ⟨⟨1, x, _, Nat.le_refl _, rfl, rfl, rfl, ⟨(fun h => by cases h), fun _ hx2 h => ⟨by omega, HB3.out hx2⟩⟩, hb⟩, by simp [intOf]⟩
    · obtain rfl : k = 1 := by omega
      by_cases hq : y ≤ 150
      · by_cases hp : x ≤ 16384
        · have hz := hS.2 rfl hp hq
          go_wp2_with fail
          go_ret
          exact ⟨⟨_, rfl, fun _ => hz⟩, hb⟩
        · have hd : decide (x ≤ 16384) = false := decide_eq_false hp
          go_wp2_with fail
          go_ret
          exact ⟨⟨false, by simp, (fun h => by cases h)⟩, hb⟩
      · go_wp2_with fail
        go_ret
        exact ⟨⟨false, rfl, (fun h => by cases h)⟩, hb⟩

/-- No message is long. -/
def Sz (m : PN) : Prop := ∀ x y, ∀ s ∈ m.N x y, s.size ≤ 8192

theorem Sz.new : Sz ⟨fun _ _ => [], 0, 0⟩ := fun _ _ _ h => by cases h

theorem Sz.up {N : Int → Int → List ByteArray} (h : ∀ x y, ∀ s ∈ N x y, s.size ≤ 8192) {a c : Int} {l : List ByteArray} (hl : ∀ s ∈ l, s.size ≤ 8192) : ∀ x y, ∀ s ∈ upN N a c l x y, s.size ≤ 8192 := by
  intro x y s hs
  unfold upN at hs
  split at hs
  · exact hl s hs
  · exact h x y s hs

theorem getD_memB {l : List ByteArray} {i : Nat} (h : i < l.length) : l.getD i ByteArray.empty ∈ l := by
  rw [List.getD_eq_getElem?_getD, List.getElem?_eq_getElem h]
  exact List.getElem_mem h

theorem Sz.act {m : PN} (h : Sz m) (z : Int) (k : Nd) (hk : k.xb.length = k.bl) : Sz (m.act z k).1 ∧ ((m.act z k).2.ok = true → (m.act z k).2.msg.size ≤ 8192) := by
  have her : ∀ i, ∀ s ∈ (m.N k.x k.y).eraseIdx i, s.size ≤ 8192 := fun i s hs => h _ _ s (List.mem_of_mem_eraseIdx hs)
  unfold PN.act
  split
  · split
    · next h1 => exact ⟨Sz.up h (her _), fun _ => h _ _ _ (getD_memB (i := k.i.toNat) (by omega))⟩
    · exact ⟨h, fun e => by cases e⟩
  · split
    · split
      · next h1 => exact ⟨Sz.up h (her _), fun e => by cases e⟩
      · exact ⟨h, fun e => by cases e⟩
    · split
      · split
        · next h1 =>
          split
          · refine ⟨Sz.up h fun s hs => ?_, fun e => by cases e⟩
            rcases List.mem_append.1 hs with hs | hs
            · exact h _ _ s hs
            · rw [List.mem_singleton.1 hs]; exact h _ _ _ (getD_memB (i := k.i.toNat) (by omega))
          · exact ⟨h, fun e => by cases e⟩
        · exact ⟨h, fun e => by cases e⟩
      · split
        · exact ⟨h, fun e => by cases e⟩
        · split
          · refine ⟨fun x y s hs => h x y s ?_, fun e => by cases e⟩
            replace hs : s ∈ clrN m.N k.i x y := hs
            unfold clrN at hs
            split at hs
            · cases hs
            · exact hs
          · split
            · exact ⟨h, fun e => by cases e⟩
            · split
              · exact ⟨h, fun e => by cases e⟩
              · next h8 =>
                split
                · refine ⟨Sz.up h fun s hs => ?_, fun e => by cases e⟩
                  rcases List.mem_append.1 hs with hs | hs
                  · exact h _ _ s hs
                  · rw [List.mem_singleton.1 hs, strOfNums_size, hk]; omega
                · exact ⟨h, fun e => by cases e⟩

theorem Sz.step {m : PN} (h : Sz m) (k : Nd) (hk : k.xb.length = k.bl) : Sz (m.step k).1 ∧ ((m.step k).2.ok = true → (m.step k).2.msg.size ≤ 8192) := h.act _ k hk

end Go.Proofs.Ytmnipfdcbmamnaa.M
