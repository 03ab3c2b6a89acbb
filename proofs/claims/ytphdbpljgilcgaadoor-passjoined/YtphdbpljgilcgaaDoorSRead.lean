/-
  Own text: what a pass says: the contract of Read over bytes that claim what may be.
-/
import Derived.Test.YtphdbpljgilcgaaDoorSClaim
import Derived.Test.YtphdbpljgilcgaaDoorEq
namespace Go.Proofs.YtphdbpljgilcgaaDoor.M
open Go.ChangeShapes Go.WideShapes Go.ChangeAt Go.RowKit Go.Proofs
set_option linter.unusedSimpArgs false

set_option maxRecDepth 20000 in
set_option maxHeartbeats 1000000 in
theorem within_none (g : Nat) (p : Option Addr) (n c : Nat) (w : World) (h : Rdr w g p n c [] 0) :
    Calls Tryd.prog 31 #[.pointer (some ⟨g, 0, none⟩), .int .i64 0, .int .i64 6] w fun e w' => e = .returned (.int .i64 0) ∧ w.grownBy w' (some g) := by
  have hE := err_any g p n c _ 0 w h
  have hN := number_any p n c _ w h.rd h.byt h.room
  have hS := step_err g p n c _ 0 0 2 w h (by decide)
  have e1 : numR [] = (0, 0, 2) := rfl
  have h1 := h.rest
  rw [e1] at hN
  dsimp only at hN
  clear h e1
  go_enter Tryd.func31, Tryd.ntmps31
  go_wp2_with fail
  refine hE.mono ?_
  rintro e w1 ⟨rfl, hw⟩
  subst hw
  go_wp2_with fail
  refine hN.mono ?_
  rintro e w1 ⟨rfl, hw⟩
  subst hw
  go_wp2_with fail
  refine hS.mono ?_
  rintro e w2 ⟨rfl, _, hg⟩
  go_wp2_with fail
  go_ret
  exact ⟨rfl, hg⟩

set_option maxRecDepth 20000 in
set_option maxHeartbeats 1000000 in
theorem claimed_none (p : Option Addr) (c : Nat) (w : World) (hr : Rd .u8 w p 0 c []) :
    Calls Tryd.prog 20 #[.slice p 0 c] w fun e w' => e = .returned (.slice none 0 0) ∧ Below w.heap.size w w' := by
  have cR := read_any p 0 c [] w hr By.nil (by omega)
  clear hr
  go_enter Tryd.func20, Tryd.ntmps20
  go_wp2_with fail
  refine cR.mono ?_
  rintro e w1 ⟨g, p1, c1, rfl, hR1, hg1, hgs1, hb1⟩
  clear cR
  have cW := within_none g p1 0 c1 w1 hR1
  clear hR1
  go_wp2_with fail
  refine cW.mono ?_
  rintro e w2 ⟨rfl, hgr2⟩
  have hbb2 : Below w.heap.size w w2 := hb1.grown hgr2 hb1.size (fun k hk => by cases hk; exact hg1)
  clear cW hgr2 hb1 hgs1
  go_wp2_with fail
  go_loopw [3, 9] (fun v i wr => i = .int .i64 0 ∧ v = .slice none 0 0 ∧ Below w.heap.size w wr) (fun _ _ _ => 0)
  case atStart => exact ⟨rfl, rfl, hbb2⟩
  case round =>
    obtain ⟨rfl, rfl, hb⟩ := hrel
    go_wp2_with fail
    go_ret
    exact ⟨rfl, hb⟩

theorem passL_by (K : List Int) (L : List Sn) : By (passL K L) := by
  unfold passL
  split
  · exact By.nil
  · exact By.app (bodyF_by _ _) (eigL_by _)

set_option maxRecDepth 20000 in
set_option maxHeartbeats 4000000 in
theorem read_pass (kp : Option Addr) (kc : Nat) (K : List Int) (p : Option Addr) (n c : Nat) (xs : List Int) (L : List Sn) (w : World) (hk : Rd .u8 w kp 16 kc K) (bk : By K) (hr : Rd .u8 w p n c xs) (bx : By xs) (hn : n ≤ 120) (hz : rightL L = 0) (hf : Fit L) (hT : Tabs w)
    (hC : (xs = [] ∧ L = []) ∨ ∃ T, xs = bodyL L ++ T) :
    Calls Tryd.prog 9 #[.slice kp 16 kc, .slice p n c] w fun e w' => ∃ q d, e = .returned (.tuple #[.slice q (if passL K L = xs then L else []).length d, .int .i64 (if passL K L = xs then 0 else 100)]) ∧ RdM w' q (if passL K L = xs then L else []).length d (if passL K L = xs then L else []) ∧ Below w.heap.size w w' := by
  have hM := (right_iff L).1 hz
  have cC : Calls Tryd.prog 20 #[.slice p n c] w fun e w' => ∃ q d, e = .returned (.slice q L.length d) ∧ RdM w' q L.length d L ∧ Below w.heap.size w w' := by
    rcases hC with ⟨e1, e2⟩ | ⟨T, e1⟩
    · subst e1 e2
      have h0 : n = 0 := hr.len.symm
      subst h0
      exact (claimed_none p c w hr).mono fun e w' ⟨h1, h2⟩ => ⟨none, 0, h1, RdM.nilR _ _, h2⟩
    · subst e1
      refine claimed_any p n c L T w hr bx (by omega) hf hM.1 fun s hs => ?_
      have h1 := hM.2.1.2 s hs
      have h2 := (hM.2.2 s hs).2
      omega
  have cM := fun (q : Option Addr) (d : Nat) (W : World) (h1 : Rd .u8 W kp 16 kc K) (h2 : RdM W q L.length d L) (h3 : Tabs W) => make_any kp kc K q L.length d L W h1 bk h2 hf hz h3
  have bP := passL_by K L
  have cE := fun (q : Option Addr) (d : Nat) (W : World) (h1 : Rd .u8 W q (passL K L).length d (passL K L)) (h2 : Rd .u8 W p n c xs) => equal_any q p _ d n c _ _ W h1 h2 bP bx
  have hni : ¬ (120 : Int) < (n : Int) := by omega
  generalize passL K L = P at *
  clear hM hC hz bP bx
  by_cases hPx : P = xs
  · have HP1 : Hid ((if P = xs then L else []) = L) := if_pos hPx
    have HP2 : Hid ((if P = xs then (0 : Int) else 100) = 0) := if_pos hPx
    rw [decide_eq_true hPx] at cE
    rw [HP1.out, HP2.out]
    clear hPx HP1 HP2
    generalize P.length = pl at *
    generalize hLm : L.length = m at *
    clear hLm
    go_enter Tryd.func9, Tryd.ntmps9
    go_wp2_with fail
    refine cC.mono ?_
    rintro e w1 ⟨q1, d1, rfl, hr1, hb1⟩
    have hk1 := hk.below hb1
    have hx1 := hr.below hb1
    have hT1 := hT.up hb1
    clear cC hk hr
    go_wp2_with fail
    refine (cM _ _ _ hk1 hr1 hT1).mono ?_
    rintro e w2 ⟨q2, d2, rfl, hr2, hb2⟩
    have hx2 := hx1.below hb2
    have hl2 := hr1.below hb2
    have hbb2 := hb1.trans (hb2.mono hb1.size)
    clear cM hk1 hx1 hT1 hr1
    have cE2 := cE q2 d2 w2 hr2 hx2
    clear cE hr2 hx2
    go_wp2_with fail
    refine cE2.mono ?_
    rintro e w3 ⟨rfl, rfl⟩
    clear cE2
    go_wp2_with fail
    go_ret2
    exact ⟨q1, d1, rfl, hl2, hbb2⟩
  · have HP1 : Hid ((if P = xs then L else []) = []) := if_neg hPx
    have HP2 : Hid ((if P = xs then (0 : Int) else 100) = 100) := if_neg hPx
    rw [decide_eq_false hPx] at cE
    rw [HP1.out, HP2.out]
    clear hPx HP1 HP2
    generalize P.length = pl at *
    generalize hLm : L.length = m at *
    clear hLm
    go_enter Tryd.func9, Tryd.ntmps9
    go_wp2_with fail
    refine cC.mono ?_
    rintro e w1 ⟨q1, d1, rfl, hr1, hb1⟩
    have hk1 := hk.below hb1
    have hx1 := hr.below hb1
    have hT1 := hT.up hb1
    clear cC hk hr
    go_wp2_with fail
    refine (cM _ _ _ hk1 hr1 hT1).mono ?_
    rintro e w2 ⟨q2, d2, rfl, hr2, hb2⟩
    have hx2 := hx1.below hb2
    have hbb2 := hb1.trans (hb2.mono hb1.size)
    clear cM hk1 hx1 hT1 hr1
    have cE2 := cE q2 d2 w2 hr2 hx2
    clear cE hr2 hx2
    go_wp2_with fail
    refine cE2.mono ?_
    rintro e w3 ⟨rfl, rfl⟩
    clear cE2
    go_wp2_with fail
    go_ret2
    exact ⟨none, 0, rfl, RdM.nilR _ _, hbb2⟩

/-- A pass has at most 105 bytes. -/
theorem passL_len (K : List Int) (L : List Sn) (h : May L) (hf : Fit L) : (passL K L).length ≤ 105 := by
  unfold passL
  split
  · simp
  · have h1 := putL_len_le 0 L.length (by have := h.1; omega)
    have h2 : ∀ (M : List Sn), (∀ s ∈ M, s.n < 18446744073709551616 ∧ 0 < s.v ∧ s.v ≤ 1099511627776) → ((M.map snB).flatten).length ≤ 16 * M.length := by
      intro M
      induction M with
      | nil => intro _; simp
      | cons s M ih =>
        intro hM
        have h3 := hM s (List.mem_cons_self ..)
        have h4 := ih (fun t ht => hM t (List.mem_cons_of_mem _ ht))
        have h5 := putL_len (m := s.n) h3.1
        have h6 := putL_len_le 5 s.v.toNat (by omega)
        rw [List.map_cons, List.flatten_cons, List.length_append, List.length_cons]
        simp only [snB, List.length_append]
        omega
    have h7 := h2 L (fun s hs => ⟨hf s hs, h.2.1.2 s hs, (h.2.2 s hs).2⟩)
    have h8 := h.1
    rw [List.length_append, eigL_len]
    unfold bodyL bodyF
    rw [List.take_length, List.length_append]
    omega

theorem pass_zero (K : List Int) (L : List Sn) : (passL K L).length = 0 ↔ L.length = 0 := by
  unfold passL
  split
  · next h => exact ⟨fun _ => h, fun _ => rfl⟩
  · next h =>
    rw [List.length_append, eigL_len]
    exact ⟨fun h2 => by omega, fun h2 => absurd h2 h⟩

theorem pass_claims (K : List Int) (L : List Sn) : (passL K L = [] ∧ L = []) ∨ ∃ T, passL K L = bodyL L ++ T := by
  by_cases h : L.length = 0
  · exact Or.inl ⟨List.length_eq_zero_iff.1 ((pass_zero K L).2 h), List.length_eq_zero_iff.1 h⟩
  · refine Or.inr ⟨eigL (shN (digest K (bodyL L)) 8), ?_⟩
    unfold passL
    rw [if_neg h]

end Go.Proofs.YtphdbpljgilcgaaDoor.M
