/-
  Own text: two Nets in memory; that short answers of any lists; links held against one another.
-/
import Derived.Test.YtmnipfdcbmamnaaNClone
namespace Go.Proofs.Ytmnipfdcbmamnaa.M
open Go.ChangeShapes Go.WideShapes Go.ChangeAt Go.RowKit Go.ChangeMaps Go.MapKept Go.Maps

variable {Z : Nat → Prop}

/-- What is another's, told anew. -/
theorem NB.rez {Z2 : Nat → Prop} {w : World} {B g b n side : Nat} {lost : Int} {N : Int → Int → List ByteArray} {R : Int → Int → Value} (h : NB Z w B g b n side lost N R) (hz : NZ Z2 w g b N R) : NB Z2 w B g b n side lost N R :=
  ⟨h.blk, h.map, h.rows, h.apart, h.ne, h.off, h.lo, hz⟩

/-- A Net whose blocks are as they were. -/
theorem NB.same {w w' : World} {B g b n side : Nat} {lost : Int} {N : Int → Int → List ByteArray} {R : Int → Int → Value} (h : NB Z w B g b n side lost N R) (hs : w.heap.size ≤ w'.heap.size)
    (hg : w'.heap[g]? = w.heap[g]?) (hb : w'.heap[b]? = w.heap[b]?) (hr : ∀ x y, N x y ≠ [] → ∀ k, (R x y).ownBlock = some k → w'.heap[k]? = w.heap[k]?) : NB Z w' B g b n side lost N R := by
  refine ⟨hg.trans h.blk, h.map.kept hb, fun x y hn => ?_, h.apart, h.ne, h.off, h.lo, h.zz.mono hs⟩
  have ho := h.rows x y hn
  refine ⟨ho.1, ?_⟩
  rcases ho.2 with h2 | ⟨g', cap, cur, hv, hgg, hh, r⟩
  · exact Or.inl h2
  · exact Or.inr ⟨g', cap, cur, hv, hgg, by rw [hr x y hn g' (by rw [hv]; rfl)]; exact hh, r⟩

theorem eqlLk (a b c d : Int) (w : World) : (binOp .eql 33 (.agg #[.int .i64 a, .int .i64 b]) (.agg #[.int .i64 c, .int .i64 d])).run Try.prog w = .ok (.bool (decide (a = c ∧ b = d))) w := by
  have u3 := Try.underlying3
  have a3 := Try.isAgg3
  have z3 := Try.sizeOf3
  have hS : Try.prog.underlying 33 = some (.struct (Try.prog.fieldsOf 33)) := by kernel_rfl
  have hp : Try.prog.stoodInHeld 33 = false := by kernel_rfl
  rw [run_eql_struct, show (10000 : Nat) = 9999 + 1 from rfl, run_equalIn_agg w 9999 33 _ _ hS hp]
  simp only [Program.fieldsOf, Try.underlying33]
  go_simp
  by_cases h1 : a = c
  · by_cases h2 : b = d
    · simp [h1, h2]
    · simp [h1, h2]
  · simp [h1]

/-- A call on one link leaves the others. -/
theorem step_other (m : PN) (k : Nd) (hop : ¬ 6 < wrap64 ((IntKind.u64.wrap k.op).tmod 9)) {x y : Int} (hxy : ¬ (x = k.x ∧ y = k.y)) : (m.step k).1.N x y = m.N x y := by
  unfold PN.step PN.act
  generalize wrap64 ((IntKind.u64.wrap k.op).tmod 9) = z at *
  have hu : ∀ l, upN m.N k.x k.y l x y = m.N x y := fun l => if_neg hxy
  split
  · split
    · exact hu _
    · rfl
  · split
    · split
      · exact hu _
      · rfl
    · split
      · split
        · split
          · exact hu _
          · rfl
        · rfl
      · split
        · omega
        · split
          · omega
          · split
            · rfl
            · split
              · rfl
              · split
                · exact hu _
                · rfl

/-- A list of calls that is handed on. -/
structure Lst where
  p : Option Addr
  n : Nat
  c : Nat
  ls : List Nd

/-- .. and lists of them. -/
def RdLs (w : World) (b2 : Nat) (L : Nat → Lst) (q : Nat) : Prop := ∀ i, i < q → w.cell? ⟨b2, i, none⟩ = some (.slice (L i).p (L i).n (L i).c) ∧ RdN w (L i).p (L i).n (L i).c (L i).ls

/-- Some answer; yes only of few. -/
def ShL (L : Nat → Lst) (q : Nat) (e : Ending) : Prop := ∃ b, e = .returned (.bool b) ∧ (b = true → ∀ i, i < q → (L i).n ≤ 150)

def OSl (L : Nat → Lst) (k : Nat) (p q : Int) : Prop := (0 ≤ p ∧ p ≤ 32769) ∧ (0 ≤ q ∧ q ≤ 151) ∧ (p ≤ 16384 → q ≤ 150 → ∀ i, i < k → (L i).n ≤ 150)

set_option maxRecDepth 20000 in
set_option maxHeartbeats 4000000 in
theorem short_lists (w : World) (b2 : Nat) (L : Nat → Lst) (q : Nat) (hq : q ≤ 3) (hr : RdLs w b2 L q) :
    Calls Try.prog 6 #[.slice (some ⟨b2, 0, none⟩) q q] w fun e w' => ShL L q e ∧ Below w.heap.size w w' := by
  have HR : Hid (RdLs w b2 L q) := hr
  clear hr
  go_enter Try.func6, Try.ntmps6
  go_wp2_with fail
  go_loopw [3, 4, 10] (fun x y i wr => ∃ (k : Nat) (x1 y1 : Int), k ≤ q ∧ i = .int .i64 k ∧ x = .int .i64 x1 ∧ y = .int .i64 y1 ∧ OSl L k x1 y1 ∧ Below w.heap.size w wr) (fun _ _ i _ => q - (intOf i).toNat)
  case atStart => exact ⟨0, 0, 0, Nat.zero_le _, rfl, rfl, rfl, ⟨⟨by omega, by omega⟩, ⟨by omega, by omega⟩, fun _ _ i hi => absurd hi (Nat.not_lt_zero _)⟩, Below.refl _ _⟩
  case round =>
    obtain ⟨k, x, y, hk, rfl, rfl, rfl, hS, hb⟩ := hrel
    by_cases hk1 : k < q
    · have hki : (k : Int) < (q : Int) := by omega
      obtain ⟨h2, hrk⟩ := HR.out k hk1
      have g2 : wr.cell? ⟨b2, k, none⟩ = some (.slice (L k).p (L k).n (L k).c) := by rw [hb.cell (p := ⟨b2, k, none⟩) (World.block_lt_of_cell? _ _ h2)]; exact h2
      have HS : Hid (OSl L k x y) := hS
      obtain ⟨hx0, hy0, _⟩ := hS
      have hnk : Hid (∀ p, p = (L k).n → p = (L k).n) := fun p h => h
      obtain ⟨n, Hn⟩ : ∃ z, Hid ((L k).n = z) := ⟨_, rfl⟩
      rw [Hn.out] at g2 hrk
      generalize (L k).p = p at *
      generalize (L k).c = c at *
      generalize (L k).ls = ls at *
      clear h2 hnk
      go_wp2_with fail
      go_loopw [3, 4, 7] (fun x2 y2 i wq => ∃ (j : Nat) (x1 : Int), j ≤ n ∧ y + j ≤ 151 ∧ 0 ≤ x1 ∧ x1 ≤ 32769 ∧ i = .int .i64 j ∧ x2 = .int .i64 x1 ∧ y2 = .int .i64 (y + j) ∧ (x1 ≤ 16384 → x ≤ 16384) ∧ Below w.heap.size w wq) (fun _ _ i _ => n - (intOf i).toNat)
      case atStart => exact ⟨0, x, Nat.zero_le _, by omega, hx0.1, hx0.2, rfl, rfl, by simp, fun h => h, hb⟩
      case round =>
        clear hb g2
        obtain ⟨j, x1, hj, hj1, hx1, hx2, rfl, rfl, rfl, hxx, hb⟩ := hrel
        have hout : ∀ x3 y3 : Int, x3 = x1 → y3 = y + j → ¬ (j < n ∧ y + j ≤ 150 ∧ x1 ≤ 16384) → OSl L (k + 1) x3 y3 := by
          intro x3 y3 e1 e2 hne
          subst e1 e2
          refine ⟨⟨hx1, hx2⟩, ⟨by omega, hj1⟩, fun h1 h2 i hi => ?_⟩
          by_cases hik : i = k
          · rw [hik, Hn.out]
            omega
          · exact HS.out.2.2 (hxx h1) (by omega) i (by omega)
        by_cases hjn : j < n
        · have hji : (j : Int) < (n : Int) := by omega
          by_cases hq2 : y + j ≤ 150
          · by_cases hp : x1 ≤ 16384
            · obtain ⟨gb, go, rfl, gc⟩ := hrk.cells (by omega)
              have g4 := (gc j hjn).2.2.2.2.1
              have g5 := hb.cell (World.block_lt_of_cell? _ _ g4)
              rw [g4] at g5
              clear gc g4 hout
              generalize (ls.getD j .z0).bq = bq at *
              generalize (ls.getD j .z0).bl = bl at *
              generalize (ls.getD j .z0).bc = bc at *
              have hmn : 0 ≤ min (bl : Int) 16385 ∧ min (bl : Int) 16385 ≤ 16385 := ⟨by omega, by omega⟩
              have hy1 : y + (j : Int) + 1 = y + ((j + 1 : Nat) : Int) := by omega
              go_wp2_with fail
              exact ⟨⟨j + 1, x1 + min (bl : Int) 16385, by omega, by omega, by omega, by omega, by go_num, rfl, congrArg (Value.int .i64) (by omega), fun _ => hxx hp, hb⟩, by simp [intOf]; omega⟩
            · have hz := hout x1 (y + j) rfl rfl (fun h => hp h.2.2)
              clear hout
              go_wp2_with fail
              exact ⟨⟨k + 1, x1, _, by omega, by go_num, rfl, rfl, hz, hb⟩, by simp [intOf]; omega⟩
          · have hz := hout x1 (y + j) rfl rfl (fun h => hq2 h.2.1)
            clear hout
            go_wp2_with fail
            exact ⟨⟨k + 1, x1, _, by omega, by go_num, rfl, rfl, hz, hb⟩, by simp [intOf]; omega⟩
        · have hji : ¬ (j : Int) < (n : Int) := by omega
          have hz := hout x1 (y + j) rfl rfl (fun h => hjn h.1)
          clear hout
          go_wp2_with fail
          exact ⟨⟨k + 1, x1, _, by omega, by go_num, rfl, rfl, hz, hb⟩, by simp [intOf]; omega⟩
    · have hki : ¬ (k : Int) < (q : Int) := by omega
      have hkq : k = q := by omega
      by_cases hq2 : y ≤ 150
      · by_cases hp : x ≤ 16384
        · have hz := hS.2.2 hp hq2
          rw [hkq] at hz
          go_wp2_with fail
          go_ret
          exact ⟨⟨_, rfl, fun _ => hz⟩, hb⟩
        · have hd : decide (x ≤ 16384) = false := decide_eq_false hp
          go_wp2_with fail
          go_ret
          exact ⟨⟨false, by simp, (fun h => by cases h)⟩, hb⟩
      · go_wp2_with fail
        go_ret
        exact ⟨⟨false, rfl, (fun h => by cases h)⟩, hb⟩

end Go.Proofs.Ytmnipfdcbmamnaa.M
