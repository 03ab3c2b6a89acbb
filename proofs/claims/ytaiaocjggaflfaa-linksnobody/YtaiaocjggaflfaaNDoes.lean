/-
  Own text: does, short of one, over a Net that no call made.
-/
import Derived.Test.YtaiaocjggaflfaaNNob
namespace Go.Proofs.Ytaiaocjggaflfaa.M
open Go.ChangeShapes Go.WideShapes Go.ChangeAt Go.RowKit Go.ChangeMaps Go.MapKept Go.Maps

theorem At.six {t : TypeId} {w : World} {g : Nat} {x y z u p q : Value} (h : At t w g #[x, y, z, u, p, q]) : w.cell? ⟨g, 0, none⟩ = some x ∧ w.cell? ⟨g, 1, none⟩ = some y ∧ w.cell? ⟨g, 2, none⟩ = some z ∧ w.cell? ⟨g, 3, none⟩ = some u ∧ w.cell? ⟨g, 4, none⟩ = some p ∧ w.cell? ⟨g, 5, none⟩ = some q := ⟨h.cell 0, h.cell 1, h.cell 2, h.cell 3, h.cell 4, h.cell 5⟩

set_option maxRecDepth 20000 in
set_option maxHeartbeats 4000000 in
theorem ndoes_no (v : Value) (op i x y : Int) (bq : Option Addr) (bl bc : Nat) (s : Int) (w : World) (h : Nob w v) :
    Calls Try.prog 6 #[v, .agg #[.int .i64 op, .int .i64 i, .int .i64 x, .int .i64 y, .slice bq bl bc, .int .u64 s]] w fun o w' => o = .returned (.tuple #[.slice none 0 0, .bool false, .int .i64 6]) ∧ Below w.heap.size w w' := by
  have hba := below_alloc w (.cells #[.int .i64 op, .int .i64 i, .int .i64 x, .int .i64 y, .slice bq bl bc, .int .u64 s] 27)
  have hA := At.new 27 w #[.int .i64 op, .int .i64 i, .int .i64 x, .int .i64 y, .slice bq bl bc, .int .u64 s]
  obtain ⟨c0, c1, c2, c3, c4, c5⟩ := hA.six
  have hN := h.below hba
  clear h hA
  cases q3 : (wrap64 ((IntKind.u64.wrap op).tmod 9) == 3) with
  | true =>
    have hc := Take_no v x y i _ hN
    go_enter Try.func6, Try.ntmps6
    go_wp2_with fail
    refine hc.mono ?_
    rintro o w1 ⟨rfl, hw⟩
    clear hc
    go_wp2_with fail
    go_ret3
    exact ⟨rfl, hba.trans (hw.mono hba.size)⟩
  | false =>
    cases q4 : (wrap64 ((IntKind.u64.wrap op).tmod 9) == 4) with
    | true =>
      have hc := Take_no v x y i _ hN
      go_enter Try.func6, Try.ntmps6
      go_wp2_with fail
      refine hc.mono ?_
      rintro o w1 ⟨rfl, hw⟩
      clear hc
      go_wp2_with fail
      go_ret3
      exact ⟨rfl, hba.trans (hw.mono hba.size)⟩
    | false =>
      cases q5 : (wrap64 ((IntKind.u64.wrap op).tmod 9) == 5) with
      | true =>
        have hc := Lose_no v x y i _ hN
        go_enter Try.func6, Try.ntmps6
        go_wp2_with fail
        refine hc.mono ?_
        rintro o w1 ⟨rfl, hw⟩
        clear hc
        go_wp2_with fail
        go_ret3
        exact ⟨rfl, hba.trans (hw.mono hba.size)⟩
      | false =>
        cases q6 : (wrap64 ((IntKind.u64.wrap op).tmod 9) == 6) with
        | true =>
          have hc := Double_no v x y i _ hN
          go_enter Try.func6, Try.ntmps6
          go_wp2_with fail
          refine hc.mono ?_
          rintro o w1 ⟨rfl, hw⟩
          clear hc
          go_wp2_with fail
          go_ret3
          exact ⟨rfl, hba.trans (hw.mono hba.size)⟩
        | false =>
          cases q7 : (wrap64 ((IntKind.u64.wrap op).tmod 9) == 7) with
          | true =>
            have hc := Wall_no v (.int .u64 s) _ hN
            go_enter Try.func6, Try.ntmps6
            go_wp2_with fail
            refine hc.mono ?_
            rintro o w1 ⟨rfl, hw⟩
            clear hc
            go_wp2_with fail
            go_ret3
            exact ⟨rfl, hba.trans (hw.mono hba.size)⟩
          | false =>
            cases q8 : (wrap64 ((IntKind.u64.wrap op).tmod 9) == 8) with
            | true =>
              have hc := Forget_no v i _ hN
              go_enter Try.func6, Try.ntmps6
              go_wp2_with fail
              refine hc.mono ?_
              rintro o w1 ⟨rfl, hw⟩
              clear hc
              go_wp2_with fail
              go_ret3
              exact ⟨rfl, hba.trans (hw.mono hba.size)⟩
            | false =>
              have hc := Send_no v x y (.slice bq bl bc) _ hN
              go_enter Try.func6, Try.ntmps6
              go_wp2_with fail
              refine hc.mono ?_
              rintro o w1 ⟨rfl, hw⟩
              clear hc
              go_wp2_with fail
              go_ret3
              exact ⟨rfl, hba.trans (hw.mono hba.size)⟩

/-- Some answer. -/
def AnyB (e : Ending) : Prop := ∃ b, e = .returned (.bool b)

set_option maxRecDepth 20000 in
set_option maxHeartbeats 1000000 in
theorem short_one (w : World) (b1 b2 : Nat) (bq : Option Addr) (bl bc : Nat) (h2 : w.cell? ⟨b2, 0, none⟩ = some (.slice (some ⟨b1, 0, none⟩) 1 1)) (h3 : w.cell? ⟨b1, 4, none⟩ = some (.slice bq bl bc)) :
    Calls Try.prog 4 #[.slice (some ⟨b2, 0, none⟩) 1 1] w fun e w' => AnyB e ∧ Below w.heap.size w w' := by
  go_enter Try.func4, Try.ntmps4
  go_wp2_with fail
  go_loopw [3, 4, 10] (fun x y i wr => ∃ (k : Nat) (p q : Int), k ≤ 1 ∧ i = .int .i64 k ∧ x = .int .i64 p ∧ y = .int .i64 q ∧ Below w.heap.size w wr) (fun _ _ i _ => 1 - (intOf i).toNat)
  case atStart => exact ⟨0, 0, 0, Nat.zero_le _, rfl, rfl, rfl, Below.refl _ _⟩
  case round =>
    obtain ⟨k, p, q, hk, rfl, rfl, rfl, hb⟩ := hrel
    by_cases hk1 : k < 1
    · obtain rfl : k = 0 := by omega
      have g2 : wr.cell? ⟨b2, 0, none⟩ = some (.slice (some ⟨b1, 0, none⟩) 1 1) := by rw [hb.cell (p := ⟨b2, 0, none⟩) (World.block_lt_of_cell? _ _ h2)]; exact h2
      go_wp2_with fail
      go_loopw [3, 4, 7] (fun x y i wq => ∃ (j : Nat) (p q : Int), j ≤ 1 ∧ i = .int .i64 j ∧ x = .int .i64 p ∧ y = .int .i64 q ∧ Below w.heap.size w wq) (fun _ _ i _ => 1 - (intOf i).toNat)
      case atStart => exact ⟨0, p, q, Nat.zero_le _, rfl, rfl, rfl, hb⟩
      case round =>
        clear hb
        obtain ⟨j, p, q, hj, rfl, rfl, rfl, hb⟩ := hrel
        have g3 : wr.cell? ⟨b1, 4, none⟩ = some (.slice bq bl bc) := by rw [hb.cell (p := ⟨b1, 4, none⟩) (World.block_lt_of_cell? _ _ h3)]; exact h3
        by_cases hj1 : j < 1
        · obtain rfl : j = 0 := by omega
          by_cases hq : q ≤ 150
          · by_cases hp : p ≤ 16384
            · go_wp2_with fail
              exact ⟨⟨1, _, _, Nat.le_refl _, rfl, rfl, rfl, hb⟩, by simp [intOf]⟩
            · go_wp2_with fail
              exact ⟨⟨1, p, q, Nat.le_refl _, rfl, rfl, rfl, hb⟩, by simp [intOf]⟩
          · go_wp2_with fail
            exact ⟨⟨1, p, q, Nat.le_refl _, rfl, rfl, rfl, hb⟩, by simp [intOf]⟩
        · obtain rfl : j = 1 := by omega
          go_wp2_with fail
          exact ⟨⟨1, p, q, Nat.le_refl _, rfl, rfl, rfl, hb⟩, by simp [intOf]⟩
    · obtain rfl : k = 1 := by omega
      by_cases hq : q ≤ 150
      · go_wp2_with fail
        go_ret
        exact ⟨⟨_, rfl⟩, hb⟩
      · go_wp2_with fail
        go_ret
        exact ⟨⟨_, rfl⟩, hb⟩

end Go.Proofs.Ytaiaocjggaflfaa.M
