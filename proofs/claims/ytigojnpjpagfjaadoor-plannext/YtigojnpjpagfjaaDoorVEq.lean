/-
  Own text: commands held against one another; a set of any numbers; that all commands of a plan are what they are.
-/
import Derived.Test.YtigojnpjpagfjaaDoorVAll
namespace Go.Proofs.YtigojnpjpagfjaaDoor.M
open Go.ChangeShapes Go.WideShapes Go.ChangeAt Go.RowKit

theorem take_snoc_i {l : List Int} {k : Nat} (h : k < l.length) : l.take (k + 1) = l.take k ++ [l.getD k 0] := by
  rw [List.take_succ_eq_append_getElem h, List.getD_eq_getElem?_getD, List.getElem?_eq_getElem h]
  rfl

/-- The set of numbers. -/
def ofN (l : List Int) : Nat := l.foldl (fun s n => s ||| bitN n) 0

theorem ofN_snoc {l : List Int} {k : Nat} (h : k < l.length) : ofN (l.take (k + 1)) = ofN (l.take k) ||| bitN (l.getD k 0) := by
  unfold ofN
  rw [take_snoc_i h, List.foldl_append]
  rfl

theorem ofN_lt (l : List Int) : ofN l < 18446744073709551616 := by
  have key : ∀ (l : List Int) (s : Nat), s < 18446744073709551616 → l.foldl (fun s n => s ||| bitN n) s < 18446744073709551616 := by
    intro l
    induction l with
    | nil => intro s h; exact h
    | cons x r ih => intro s h; exact ih _ (or_lt64 h (bitN_lt x))
  exact key l 0 (by decide)

set_option maxRecDepth 20000 in
theorem of_any (p : Option Addr) (n c : Nat) (ls : List Int) (w : World) (hr : Rd .i64 w p n c ls) (hn : n ≤ 1099511627776) :
    Calls Tryd.prog 37 #[.slice p n c] w fun e w' => e = .returned (.int .u64 (ofN ls)) ∧ w' = w := by
  have hxl := hr.len
  go_enter Tryd.func37, Tryd.ntmps37
  go_wp2
  go_loop [3, 8] (fun v i => ∃ k : Nat, k ≤ n ∧ i = .int .i64 k ∧ v = .int .u64 (ofN (ls.take k))) (fun _ i => n - (intOf i).toNat)
  case atStart => exact ⟨0, Nat.zero_le _, rfl, rfl⟩
  case round =>
    obtain ⟨k, hk, rfl, rfl⟩ := hrel
    by_cases h : k < n
    · obtain ⟨b, o, rfl, hc⟩ := hr.cells (by omega)
      have hcx := hc k h
      have HS : Hid (ofN (ls.take (k + 1)) = ofN (ls.take k) ||| bitN (ls.getD k 0)) := ofN_snoc (by omega)
      have hor := u64_or_nat _ _ (ofN_lt (ls.take k)) (bitN_lt (ls.getD k 0))
      have hB := bit_any (ls.getD k 0) w
      clear hc hr hxl
      generalize ofN (ls.take k) = s at HS hor
      generalize bitN (ls.getD k 0) = z2 at HS hor hB
      generalize ls.getD k 0 = z at hcx hB
      go_wp2_with (go_at_call 51; refine hB.mono ?_; rintro e w1 ⟨rfl, hw⟩; subst hw)
      go_round
      case rel => exact ⟨k + 1, by omega, by go_num, by rw [HS.out]⟩
      case measure => simp [intOf]; omega
    · obtain rfl : k = n := by omega
      have e1 : ls.take k = ls := List.take_of_length_le (by omega)
      rw [e1]
      clear hr
      go_wp2
      go_ret
      exact ⟨rfl, rfl⟩

theorem drop_cm {fs : List Cm} {k : Nat} (h : k < fs.length) : fs.drop k = fs.getD k .z0 :: fs.drop (k + 1) := by
  rw [List.drop_eq_getElem_cons h, List.getD_eq_getElem?_getD, List.getElem?_eq_getElem h]
  rfl

theorem dec_dropC {xs ys : List Cm} {k : Nat} (h1 : k < xs.length) (h2 : k < ys.length) : eqCs (xs.drop k) (ys.drop k) = (eqC (xs.getD k .z0) (ys.getD k .z0) && eqCs (xs.drop (k + 1)) (ys.drop (k + 1))) := by
  rw [drop_cm h1, drop_cm h2]
  exact Bool.eq_iff_iff.2 (by rw [Bool.and_eq_true, eqCs_iff, eqC_iff, eqCs_iff]; exact List.cons_eq_cons)

theorem neqC (f g : Cm) (h : ¬ f = g) (w : World) : (binOp .neq 37 (.agg #[.int .i64 f.k, .int .i64 f.n, .int .i64 f.s, .int .i64 f.e]) (.agg #[.int .i64 g.k, .int .i64 g.n, .int .i64 g.s, .int .i64 g.e])).run Tryd.prog w = .ok (.bool true) w := by
  have u3 := Tryd.underlying3
  have a3 := Tryd.isAgg3
  have z3 := Tryd.sizeOf3
  have hS : Tryd.prog.underlying 37 = some (.struct (Tryd.prog.fieldsOf 37)) := by kernel_rfl
  have hp : Tryd.prog.stoodInHeld 37 = false := by kernel_rfl
  obtain ⟨a, b, c, d⟩ := f
  obtain ⟨a', b', c', d'⟩ := g
  rw [run_neq_struct, show (10000 : Nat) = 9999 + 1 from rfl, run_equalIn_agg w 9999 37 _ _ hS hp]
  simp only [Program.fieldsOf, Tryd.underlying37]
  go_simp
  by_cases h1 : a = a'
  · by_cases h2 : b = b'
    · by_cases h3 : c = c'
      · by_cases h4 : d = d'
        · subst h1 h2 h3 h4; exact absurd rfl h
        · simp [h1, h2, h3, h4]
      · simp [h1, h2, h3]
    · simp [h1, h2]
  · simp [h1]

set_option maxRecDepth 20000 in
set_option maxHeartbeats 1000000 in
theorem equalC_any (p q : Option Addr) (n m c d : Nat) (xs ys : List Cm) (w : World) (hp : RdC w p n c xs) (hq : RdC w q m d ys) (hn : n ≤ 5864062014805) (hm : m ≤ 5864062014805) :
    Calls Tryd.prog 19 #[.slice p n c, .slice q m d] w fun e w' => e = .returned (.bool (eqCs xs ys)) ∧ Below w.heap.size w w' := by
  have hl1 := hp.len
  have hl2 := hq.len
  by_cases hnm : n = m
  · subst hnm
    have HS : Hid (eqCs xs ys = eqCs xs ys) := rfl
    generalize hR : eqCs xs ys = R at HS ⊢
    have HR : Hid (eqCs xs ys = R) := hR
    clear HS hR
    go_enter Tryd.func19, Tryd.ntmps19
    go_wp2_with fail
    go_loopw [13] (fun i wr => ∃ k : Nat, k ≤ n ∧ i = .int .i64 k ∧ Hid (eqCs (xs.drop k) (ys.drop k) = R) ∧ Below w.heap.size w wr) (fun i _ => n - (intOf i).toNat)
    case atStart => exact ⟨0, Nat.zero_le _, rfl, HR, Below.refl _ _⟩
    case round =>
      clear HR
      obtain ⟨k, hk, rfl, HR, hb⟩ := hrel
      by_cases h : k < n
      · obtain ⟨b1, o1, rfl, c1⟩ := (hp.below hb).cells (by omega)
        obtain ⟨b2, o2, rfl, c2⟩ := (hq.below hb).cells (by omega)
        obtain ⟨x1, x2, x3, x4⟩ := c1 k h
        obtain ⟨y1, y2, y3, y4⟩ := c2 k h
        have hk1 : (k : Int) < (n : Int) := by omega
        have hd := dec_dropC (xs := xs) (ys := ys) (k := k) (by omega) (by omega)
        have hR2 := HR.out
        rw [hd] at hR2
        clear hp hq c1 c2 HR hd
        generalize xs.getD k .z0 = f at *
        generalize ys.getD k .z0 = g at *
        by_cases hfg : f = g
        · subst hfg
          have HR : Hid (eqCs (xs.drop (k + 1)) (ys.drop (k + 1)) = R) := by unfold Hid; rw [← hR2, eqC_self]; rfl
          clear hR2
          obtain ⟨fb, fv, fsg, fe⟩ := f
          dsimp only at x1 x2 x3 x4 y1 y2 y3 y4
          go_wp2_with fail
          go_quiet (fail)
          go_wp2_with fail
          go_roundw
          case rel => exact ⟨k + 1, by omega, by go_num, HR, below_drewN hb nq⟩
          case measure => simp [intOf]; omega
        · have HR : Hid (false = R) := by unfold Hid; rw [← hR2, eqC_false hfg]; rfl
          clear hR2
          have hN := neqC f g hfg
          clear hfg
          obtain ⟨fb, fv, fsg, fe⟩ := f
          obtain ⟨gb, gv, gsg, ge⟩ := g
          dsimp only at x1 x2 x3 x4 y1 y2 y3 y4 hN
          go_wp2_with fail
          go_quiet (fail)
          go_wp2_with fail
          go_ret
          exact ⟨ret_bool HR.out, below_drewN hb nq⟩
      · obtain rfl : k = n := by omega
        have HR2 : Hid (true = R) := by
          unfold Hid; rw [← HR.out, List.drop_of_length_le (by omega), List.drop_of_length_le (by omega)]; rfl
        clear hp hq HR
        go_wp2_with fail
        go_ret
        exact ⟨ret_bool HR2.out, hb⟩
  · have HR : Hid (eqCs xs ys = false) := eqCs_false (fun e => hnm (by rw [← hl1, ← hl2, e]))
    have hne : ((n : Int) == (m : Int)) = false := by simp; omega
    clear hp hq
    go_enter Tryd.func19, Tryd.ntmps19
    go_wp2_with fail
    go_ret
    exact ⟨ret_bool HR.out.symm, Below.refl _ _⟩

theorem Steps.out0 {al : Nat} {hs vs : List Int} {e : Int} {ms : List Mb} {e3 : Int} {ms3 : List Mb} (h : Steps al hs vs e ms [] e3 ms3) : nextR al hs vs e (readyA al e ms) = none ∧ e3 = e ∧ ms3 = readyA al e ms := h

theorem Steps.out1 {al : Nat} {hs vs : List Int} {e : Int} {ms : List Mb} {x : Cm} {l : List Cm} {e3 : Int} {ms3 : List Mb} (h : Steps al hs vs e ms (x :: l) e3 ms3) : ∃ e2 ms2, nextR al hs vs e (readyA al e ms) = some (x, e2, ms2) ∧ Steps al hs vs e2 ms2 l e3 ms3 := h

theorem Steps.det {al : Nat} {hs vs : List Int} {l : List Cm} : ∀ {l' : List Cm} {e : Int} {ms : List Mb} {e2 e3 : Int} {ms2 ms3 : List Mb}, Steps al hs vs e ms l e2 ms2 → Steps al hs vs e ms l' e3 ms3 → l = l' ∧ e2 = e3 ∧ ms2 = ms3 := by
  induction l with
  | nil =>
    intro l' e ms e2 e3 ms2 ms3 h h'
    have a := Steps.out0 h
    clear h
    cases l' with
    | nil =>
      have b := Steps.out0 h'
      clear h'
      exact ⟨rfl, a.2.1.trans b.2.1.symm, a.2.2.trans b.2.2.symm⟩
    | cons y l' =>
      have b := Steps.out1 h'
      clear h'
      have ⟨e4, ms4, b1, _⟩ := b
      exact absurd (a.1.symm.trans b1) (by intro q; cases q)
  | cons x l ih =>
    intro l' e ms e2 e3 ms2 ms3 h h'
    have ⟨e4, ms4, a1, a2⟩ := Steps.out1 h
    clear h
    cases l' with
    | nil =>
      have b := Steps.out0 h'
      clear h'
      exact absurd (b.1.symm.trans a1) (by intro q; cases q)
    | cons y l' =>
      have ⟨e5, ms5, b1, b2⟩ := Steps.out1 h'
      clear h'
      have q := Option.some.inj (a1.symm.trans b1)
      have q1 : x = y := congrArg (fun p => p.1) q
      have q2 : e4 = e5 := congrArg (fun p => p.2.1) q
      have q3 : ms4 = ms5 := congrArg (fun p => p.2.2) q
      subst q1 q2 q3
      have r := ih a2 b2
      exact ⟨congrArg (fun t => x :: t) r.1, r.2.1, r.2.2⟩

theorem ex_steps : Steps 5 [0, 1, 1, 0, 0, 0] [1, 1, 0] 1 [⟨0, 0, false⟩, ⟨1, 1, false⟩] [⟨1, 1, 0, 1⟩, ⟨2, 2, 1, 2⟩] 3 [⟨0, 0, false⟩, ⟨2, 1, false⟩] := by
  have r1 : readyA 5 1 [⟨0, 0, false⟩, ⟨1, 1, false⟩] = [⟨0, 0, false⟩, ⟨1, 1, false⟩] := by kernel_rfl
  have n1 : nextR 5 [0, 1, 1, 0, 0, 0] [1, 1, 0] 1 [⟨0, 0, false⟩, ⟨1, 1, false⟩] = some (⟨1, 1, 0, 1⟩, 2, [⟨0, 0, false⟩]) := by kernel_rfl
  have r2 : readyA 5 2 [⟨0, 0, false⟩] = [⟨0, 0, false⟩] := by kernel_rfl
  have n2 : nextR 5 [0, 1, 1, 0, 0, 0] [1, 1, 0] 2 [⟨0, 0, false⟩] = some (⟨2, 2, 1, 2⟩, 3, [⟨0, 0, false⟩, ⟨2, 1, true⟩]) := by kernel_rfl
  have r3 : readyA 5 3 [⟨0, 0, false⟩, ⟨2, 1, true⟩] = [⟨0, 0, false⟩, ⟨2, 1, false⟩] := by kernel_rfl
  have n3 : nextR 5 [0, 1, 1, 0, 0, 0] [1, 1, 0] 3 [⟨0, 0, false⟩, ⟨2, 1, false⟩] = none := by kernel_rfl
  refine Steps.step (by rw [r1]; exact n1) (Steps.step (by rw [r2]; exact n2) ?_)
  have := Steps.done (al := 5) (hs := [0, 1, 1, 0, 0, 0]) (vs := [1, 1, 0]) (e := 3) (ms := [⟨0, 0, false⟩, ⟨2, 1, true⟩]) (by rw [r3]; exact n3)
  rw [r3] at this
  exact this

end Go.Proofs.YtigojnpjpagfjaaDoor.M
