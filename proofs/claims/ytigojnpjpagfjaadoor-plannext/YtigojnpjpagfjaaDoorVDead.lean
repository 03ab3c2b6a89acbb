/-
  Own text: a plan's state in memory; the first member that can go and is not alive.
-/
import Derived.Test.YtigojnpjpagfjaaDoorVLacks
namespace Go.Proofs.YtigojnpjpagfjaaDoor.M
open Go.ChangeShapes Go.WideShapes Go.ChangeAt Go.RowKit

/-- A command. -/
structure Cm where
  k : Int
  n : Int
  s : Int
  e : Int

def Cm.z0 : Cm := ⟨0, 0, 0, 0⟩

def Cm.tup (m : Cm) : Int × Int × Int × Int := (m.k, m.n, m.s, m.e)

theorem Cm.tup_inj (x y : Cm) (h : x.tup = y.tup) : x = y := by
  obtain ⟨a, b, c, d⟩ := x
  obtain ⟨a', b', c', d'⟩ := y
  simp only [Cm.tup, Prod.mk.injEq] at h
  obtain ⟨h0, h1, h2, h3⟩ := h
  subst h0 h1 h2 h3
  rfl

/-- Whether two are the same. -/
def eqC (x y : Cm) : Bool := decide (x.tup = y.tup)

def eqCs (xs ys : List Cm) : Bool := decide (xs.map Cm.tup = ys.map Cm.tup)

theorem eqC_iff (x y : Cm) : eqC x y = true ↔ x = y := ⟨fun h => Cm.tup_inj x y (of_decide_eq_true h), fun h => by subst h; exact decide_eq_true rfl⟩

theorem eqC_self (x : Cm) : eqC x x = true := decide_eq_true rfl

theorem eqC_false {x y : Cm} (h : ¬ x = y) : eqC x y = false := decide_eq_false (fun e => h (Cm.tup_inj x y e))

theorem Cm.map_inj : ∀ (xs ys : List Cm), xs.map Cm.tup = ys.map Cm.tup → xs = ys
  | [], [], _ => rfl
  | [], _ :: _, h => by simp at h
  | _ :: _, [], h => by simp at h
  | x :: xs, y :: ys, h => by
    rw [List.map_cons, List.map_cons] at h
    injection h with h1 h2
    rw [Cm.tup_inj x y h1, Cm.map_inj xs ys h2]

theorem eqCs_iff (xs ys : List Cm) : eqCs xs ys = true ↔ xs = ys := ⟨fun h => Cm.map_inj xs ys (of_decide_eq_true h), fun h => by subst h; exact decide_eq_true rfl⟩

theorem eqCs_self (xs : List Cm) : eqCs xs xs = true := decide_eq_true rfl

theorem eqCs_false {xs ys : List Cm} (h : ¬ xs = ys) : eqCs xs ys = false := decide_eq_false (fun e => h (Cm.map_inj xs ys e))

/-- A command and the chain behind it, or none. -/
abbrev OC := Option (Cm × Int × List Mb)

/-- What is told of that. -/
def Got (B : Nat) (w : World) (v : Value) : OC → Prop
  | none => v = .tuple #[.agg #[.int .i64 0, .int .i64 0, .int .i64 0, .int .i64 0], .agg #[.int .i64 0, .slice none 0 0], .bool false]
  | some (x, e, ms) => ∃ q c, v = .tuple #[.agg #[.int .i64 x.k, .int .i64 x.n, .int .i64 x.s, .int .i64 x.e], .agg #[.int .i64 e, .slice q ms.length c], .bool true] ∧ (∀ a, q = some a → 0 < ms.length → B ≤ a.block) ∧ RdM w q ms.length c ms

theorem Got.below {B : Nat} {w w' : World} {v : Value} {R : OC} (h : Got B w v R) (hb : Below w.heap.size w w') : Got B w' v R := by
  match R, h with
  | none, h => exact h
  | some (_, _, _), ⟨q, c, h1, h3, h2⟩ => exact ⟨q, c, h1, h3, h2.below hb⟩

theorem Got.lower {B B' : Nat} {w : World} {v : Value} {R : OC} (h : Got B w v R) (hb : B' ≤ B) : Got B' w v R := by
  match R, h with
  | none, h => exact h
  | some (_, _, _), ⟨q, c, h1, h3, h2⟩ => exact ⟨q, c, h1, fun a ha hn => Nat.le_trans hb (h3 a ha hn), h2⟩

/-- The first one of a list that is not alive, and can go. -/
def deadR (al : Nat) (e : Int) (ms : List Mb) : List Mb → OC
  | [] => none
  | m :: l => if hasN al m.n = true then deadR al e ms l else
    match cutR (fun x => x.n == m.n) e ms with
    | .ok (e', ms') => some (⟨1, m.n, 0, e⟩, e', ms')
    | .error _ => deadR al e ms l

theorem At.four {t : TypeId} {w : World} {g : Nat} {x y z u : Value} (h : At t w g #[x, y, z, u]) : w.cell? ⟨g, 0, none⟩ = some x ∧ w.cell? ⟨g, 1, none⟩ = some y ∧ w.cell? ⟨g, 2, none⟩ = some z ∧ w.cell? ⟨g, 3, none⟩ = some u := ⟨h.cell 0, h.cell 1, h.cell 2, h.cell 3⟩

theorem At.free4 {t : TypeId} {w : World} {g : Nat} {cs : Array Value} (h : At t w g cs) : w.frozen? ⟨g, 0, none⟩ = false ∧ w.frozen? ⟨g, 1, none⟩ = false ∧ w.frozen? ⟨g, 2, none⟩ = false ∧ w.frozen? ⟨g, 3, none⟩ = false := ⟨h.free 0, h.free 1, h.free 2, h.free 3⟩

theorem At.put4 {t : TypeId} {w : World} {g : Nat} {x y z u : Value} (h : At t w g #[x, y, z, u]) (x' y' z' u' : Value) : At t ((((w.setCell ⟨g, 0, none⟩ x').setCell ⟨g, 1, none⟩ y').setCell ⟨g, 2, none⟩ z').setCell ⟨g, 3, none⟩ u') g #[x', y', z', u'] := (((h.set 0 x').set 1 y').set 2 z').set 3 u'

theorem At.put2 {t : TypeId} {w : World} {g : Nat} {x y : Value} (h : At t w g #[x, y]) (x' y' : Value) : At t ((w.setCell ⟨g, 0, none⟩ x').setCell ⟨g, 1, none⟩ y') g #[x', y'] := (h.set 0 x').set 1 y'

theorem At.other4 {t : TypeId} {w : World} {g : Nat} {cs : Array Value} (h : At t w g cs) (b : Nat) (hne : b ≠ g) (x' y' z' u' : Value) : At t ((((w.setCell ⟨b, 0, none⟩ x').setCell ⟨b, 1, none⟩ y').setCell ⟨b, 2, none⟩ z').setCell ⟨b, 3, none⟩ u') g cs := (((h.other b 0 x' hne).other b 1 y' hne).other b 2 z' hne).other b 3 u' hne

theorem At.other2 {t : TypeId} {w : World} {g : Nat} {cs : Array Value} (h : At t w g cs) (b : Nat) (hne : b ≠ g) (x' y' : Value) : At t ((w.setCell ⟨b, 0, none⟩ x').setCell ⟨b, 1, none⟩ y') g cs := (h.other b 0 x' hne).other b 1 y' hne

theorem At.drew {t : TypeId} {w : World} {g : Nat} {cs : Array Value} (h : At t w g cs) : At t w.drew g cs := h

theorem RdM.drew {w : World} {p : Option Addr} {n c : Nat} {ms : List Mb} (h : RdM w p n c ms) : RdM w.drew p n c ms := ⟨h.len, h.cap, h.nil, h.cells⟩

theorem Below.drewR {B : Nat} {w w' : World} (h : Below B w w') : Below B w w'.drew := ⟨h.os, h.tape, h.output, h.size, h.block⟩

theorem RdM.put4 {W : World} {q : Option Addr} {n c b : Nat} {ms : List Mb} (h : RdM W q n c ms) (x y z u : Value) (hq : ∀ a, q = some a → 0 < n → a.block ≠ b) : RdM ((((W.setCell ⟨b, 0, none⟩ x).setCell ⟨b, 1, none⟩ y).setCell ⟨b, 2, none⟩ z).setCell ⟨b, 3, none⟩ u) q n c ms := (((h.set1 x hq).set1 y hq).set1 z hq).set1 u hq

theorem Below.put4 {B b : Nat} {w W : World} (h : Below B w W) (hb : B ≤ b) (x y z u : Value) : Below B w ((((W.setCell ⟨b, 0, none⟩ x).setCell ⟨b, 1, none⟩ y).setCell ⟨b, 2, none⟩ z).setCell ⟨b, 3, none⟩ u) := (((h.setCell hb x).setCell hb y).setCell hb z).setCell hb u

theorem Below.put2 {B b : Nat} {w W : World} (h : Below B w W) (hb : B ≤ b) (x y : Value) : Below B w ((W.setCell ⟨b, 0, none⟩ x).setCell ⟨b, 1, none⟩ y) := (h.setCell hb x).setCell hb y

theorem sizeCm : (Tryd.prog.info? 37).map (·.size) = some 4 := by kernel_rfl

theorem results_three {fn : Func} {p q u : Tmp} (h : fn.results = #[.cell p 37, .cell q 28, .tmp u]) (tmps : Array Value) (w : World) (g g2 : Nat) (x0 x1 x2 x3 y0 y1 : Value) (hp : tmps.getD p undef = .pointer (some ⟨g, 0, none⟩)) (hq : tmps.getD q undef = .pointer (some ⟨g2, 0, none⟩)) (hg : At 37 w g #[x0, x1, x2, x3]) (hg2 : At 28 w g2 #[y0, y1]) :
    (results fn tmps).run Tryd.prog w = .ok (.tuple #[.agg #[x0, x1, x2, x3], .agg #[y0, y1], tmps.getD u undef]) w := by
  have hp' : tmps[p]?.getD undef = .pointer (some ⟨g, 0, none⟩) := by simpa using hp
  have hq' : tmps[q]?.getD undef = .pointer (some ⟨g2, 0, none⟩) := by simpa using hq
  simp [results, h, hp', hq', asAddr, run_loadVar_row w g 37 37 _ (0, 0) _ hg Tryd.underlying37 rfl sizeCm, run_loadVar_row w g2 28 28 _ (0, 0) _ hg2 Tryd.underlying28 rfl sizeC]

/-- A state's twelve cells. -/
theorem At.state {w : World} {g : Nat} {e : Int} {p : Option Addr} {n c al : Nat} {h0 h1 h2 h3 h4 h5 v0 v1 v2 : Int} (h : At 72 w g #[.int .i64 e, .slice p n c, .int .u64 (al : Int), .int .i64 h0, .int .i64 h1, .int .i64 h2, .int .i64 h3, .int .i64 h4, .int .i64 h5, .int .i64 v0, .int .i64 v1, .int .i64 v2]) :
    w.cell? ⟨g, 0, none⟩ = some (.int .i64 e) ∧ w.cell? ⟨g, 1, none⟩ = some (.slice p n c) ∧ w.cell? ⟨g, 2, none⟩ = some (.int .u64 (al : Int)) ∧
    (w.cell? ⟨g, 3, none⟩ = some (.int .i64 h0) ∧ w.cell? ⟨g, 4, none⟩ = some (.int .i64 h1) ∧ w.cell? ⟨g, 5, none⟩ = some (.int .i64 h2) ∧ w.cell? ⟨g, 6, none⟩ = some (.int .i64 h3) ∧ w.cell? ⟨g, 7, none⟩ = some (.int .i64 h4) ∧ w.cell? ⟨g, 8, none⟩ = some (.int .i64 h5)) ∧
    w.cell? ⟨g, 9, none⟩ = some (.int .i64 v0) ∧ w.cell? ⟨g, 10, none⟩ = some (.int .i64 v1) ∧ w.cell? ⟨g, 11, none⟩ = some (.int .i64 v2) :=
  ⟨h.cell 0, h.cell 1, h.cell 2, ⟨h.cell 3, h.cell 4, h.cell 5, h.cell 6, h.cell 7, h.cell 8⟩, h.cell 9, h.cell 10, h.cell 11⟩

theorem vcut_err {pr : Mb → Bool} {e k : Int} {ms : List Mb} (h : cutR pr e ms = .error k) : (k == 0) = false := by
  unfold cutR at h
  repeat' split at h
  all_goals cases h
  all_goals rfl

set_option maxRecDepth 20000 in
set_option maxHeartbeats 2000000 in
theorem dead_any (e : Int) (p : Option Addr) (n c : Nat) (ms : List Mb) (al : Nat) (h0 h1 h2 h3 h4 h5 v0 v1 v2 : Int) (w : World) (hal : al < 18446744073709551616) (hr : RdM w p n c ms) (hn : n ≤ 5864062014805) :
    Calls Tryd.prog 61 #[.agg #[.int .i64 e, .slice p n c, .int .u64 (al : Int), .int .i64 h0, .int .i64 h1, .int .i64 h2, .int .i64 h3, .int .i64 h4, .int .i64 h5, .int .i64 v0, .int .i64 v1, .int .i64 v2]] w fun r w' => ∃ x, r = .returned x ∧ Got w.heap.size w' x (deadR al e ms ms) ∧ Below w.heap.size w w' := by
  have hl := hr.len
  have hb0 : Below w.heap.size w (((w.alloc (.cells #[.int .i64 e, .slice p n c, .int .u64 (al : Int), .int .i64 h0, .int .i64 h1, .int .i64 h2, .int .i64 h3, .int .i64 h4, .int .i64 h5, .int .i64 v0, .int .i64 v1, .int .i64 v2] 72)).alloc (.cells #[.int .i64 0, .int .i64 0, .int .i64 0, .int .i64 0] 37)).alloc (.cells #[.int .i64 0, .slice none 0 0] 28)) := (((Below.refl _ _).alloc (Nat.le_refl _) _).alloc (by simp) _).alloc (by simp; omega) _
  have hS : At 72 (((w.alloc (.cells #[.int .i64 e, .slice p n c, .int .u64 (al : Int), .int .i64 h0, .int .i64 h1, .int .i64 h2, .int .i64 h3, .int .i64 h4, .int .i64 h5, .int .i64 v0, .int .i64 v1, .int .i64 v2] 72)).alloc (.cells #[.int .i64 0, .int .i64 0, .int .i64 0, .int .i64 0] 37)).alloc (.cells #[.int .i64 0, .slice none 0 0] 28)) w.heap.size #[.int .i64 e, .slice p n c, .int .u64 (al : Int), .int .i64 h0, .int .i64 h1, .int .i64 h2, .int .i64 h3, .int .i64 h4, .int .i64 h5, .int .i64 v0, .int .i64 v1, .int .i64 v2] := ((At.new 72 w _).alloc _).alloc _
  have hC : At 37 (((w.alloc (.cells #[.int .i64 e, .slice p n c, .int .u64 (al : Int), .int .i64 h0, .int .i64 h1, .int .i64 h2, .int .i64 h3, .int .i64 h4, .int .i64 h5, .int .i64 v0, .int .i64 v1, .int .i64 v2] 72)).alloc (.cells #[.int .i64 0, .int .i64 0, .int .i64 0, .int .i64 0] 37)).alloc (.cells #[.int .i64 0, .slice none 0 0] 28)) (w.heap.size + 1) #[.int .i64 0, .int .i64 0, .int .i64 0, .int .i64 0] := At.moved (by simp) ((At.new 37 _ _).alloc _)
  have hH : At 28 (((w.alloc (.cells #[.int .i64 e, .slice p n c, .int .u64 (al : Int), .int .i64 h0, .int .i64 h1, .int .i64 h2, .int .i64 h3, .int .i64 h4, .int .i64 h5, .int .i64 v0, .int .i64 v1, .int .i64 v2] 72)).alloc (.cells #[.int .i64 0, .int .i64 0, .int .i64 0, .int .i64 0] 37)).alloc (.cells #[.int .i64 0, .slice none 0 0] 28)) (w.heap.size + 2) #[.int .i64 0, .slice none 0 0] := At.moved (by simp) (At.new 28 _ _)
  generalize hw : w.heap.size = b at *
  generalize hR : deadR al e ms ms = R
  have HR : Hid (deadR al e ms ms = R) := hR
  have HL : Hid (ms.length = n) := hl
  clear hR hl
  obtain ⟨a0, a1, a2, ⟨a3, a4, a5, a6, a7, a8⟩, a9, a10, a11⟩ := hS.state
  go_enter Tryd.func61, Tryd.ntmps61
  go_wp2_with fail
  go_loopw [13] (fun i wr => ∃ k : Nat, k ≤ n ∧ i = .int .i64 k ∧ Hid (deadR al e ms (ms.drop k) = R) ∧ At 72 wr b #[.int .i64 e, .slice p n c, .int .u64 (al : Int), .int .i64 h0, .int .i64 h1, .int .i64 h2, .int .i64 h3, .int .i64 h4, .int .i64 h5, .int .i64 v0, .int .i64 v1, .int .i64 v2] ∧ At 37 wr (b + 1) #[.int .i64 0, .int .i64 0, .int .i64 0, .int .i64 0] ∧ At 28 wr (b + 2) #[.int .i64 0, .slice none 0 0] ∧ Below b w wr) (fun i _ => n - (intOf i).toNat)
  case atStart => exact ⟨0, Nat.zero_le _, rfl, HR, hS, hC, hH, hb0⟩
  case round =>
    clear HR hS hC hH hb0 a0 a1 a2 a3 a4 a5 a6 a7 a8 a9 a10 a11
    obtain ⟨k, hk, rfl, HR, hS, hC, hH, hb⟩ := hrel
    have hsz : b ≤ wr.heap.size := by have := hb.size; omega
    by_cases h : k < n
    · have hrr := hr.below (by rw [hw]; exact hb)
      obtain ⟨bb, o, rfl, hc⟩ := hrr.cells (by omega)
      obtain ⟨g1, g2, g3⟩ := hc k h
      have hd := drop_mb (fs := ms) (k := k) (by rw [HL.out]; exact h)
      have hR := HR.out
      rw [hd, deadR] at hR
      clear hc HR hd hr
      generalize ms.getD k .z0 = m at *
      obtain ⟨mn, msi, mf⟩ := m
      dsimp only at g1 g2 g3 hR
      have hba := below_alloc wr (.cells #[.int .i64 mn, .int .i64 msi, .bool mf] 45)
      have hB := hb.trans (hba.mono hsz)
      have hM := At.new 45 wr #[.int .i64 mn, .int .i64 msi, .bool mf]
      have hS2 := hS.below hba
      have hC2 := hC.below hba
      have hH2 := hH.below hba
      have hr2 := hrr.below hba
      have hHa := fun W => has_any al mn W hal
      obtain ⟨a0, a1, a2, ⟨a3, a4, a5, a6, a7, a8⟩, a9, a10, a11⟩ := hS2.state
      clear hb hba hS hC hH hrr
      cases hh : hasN al mn with
      | true =>
        have HR : Hid (deadR al e ms (ms.drop (k + 1)) = R) := by unfold Hid; rw [← hR, if_pos hh]
        rw [hh] at hHa
        clear hR hh
        go_wp2_with fail
        refine (hHa _).mono ?_
        rintro r w2 ⟨rfl, hw2⟩
        subst hw2
        go_wp2_with fail
        go_roundw
        case rel => exact ⟨k + 1, by omega, by go_num, HR, hS2, hC2, hH2, hB⟩
        case measure => simp [intOf]; omega
      | false =>
        rw [if_neg (by rw [hh]; decide)] at hR
        rw [hh] at hHa
        have hD := fun W hx => Drop_any e (some ⟨bb, o, none⟩) n c ms mn W hx hn
        clear hh
        cases hcu : cutR (fun x => x.n == mn) e ms with
        | error kk =>
          have HR : Hid (deadR al e ms (ms.drop (k + 1)) = R) := by unfold Hid; rw [← hR, hcu]
          have hk0 := vcut_err hcu
          rw [hcu] at hD
          clear hR hcu
          go_wp2_with fail
          refine (hHa _).mono ?_
          rintro r w2 ⟨rfl, hw2⟩
          subst hw2
          go_wp2_with fail
          refine (hD _ hr2).mono ?_
          rintro r w3 ⟨x3, rfl, ht, hb3⟩
          obtain rfl := ht
          have hS3 := hS2.below hb3
          have hC3 := hC2.below hb3
          have hH3 := hH2.below hb3
          have hB3 := hB.trans (hb3.mono (by have := hB.size; omega))
          clear hS2 hC2 hH2 hB hD hHa a0 a1 a2 a3 a4 a5 a6 a7 a8 a9 a10 a11 g1 g2 g3 hM hr2
          have hba := below_alloc w3 (.cells #[.int .i64 0, .slice none 0 0] 28)
          go_wp2_with fail
          go_roundw
          case rel => exact ⟨k + 1, by omega, by go_num, HR, hS3.below hba, hC3.below hba, hH3.below hba, hB3.trans (hba.mono (by have := hB3.size; omega))⟩
          case measure => simp [intOf]; omega
        | ok em =>
          obtain ⟨e2, ms2⟩ := em
          have HR : Hid (R = some (⟨1, mn, 0, e⟩, e2, ms2)) := by unfold Hid; rw [← hR, hcu]
          rw [hcu] at hD
          clear hR hcu
          go_wp2_with fail
          refine (hHa _).mono ?_
          rintro r w2 ⟨rfl, hw2⟩
          subst hw2
          go_wp2_with fail
          refine (hD _ hr2).mono ?_
          rintro r w3 ⟨x3, rfl, ht, hb3⟩
          obtain ⟨q3, c3, rfl, hq3, hr3⟩ := ht
          have hX : b + 2 < (wr.alloc (.cells #[.int .i64 mn, .int .i64 msi, .bool mf] 45)).heap.size := hH2.lt
          have hS3 := hS2.below hb3
          have hC3 := hC2.below hb3
          have hH3 := hH2.below hb3
          have hM3 := hM.below hb3
          have hB3 := hB.trans (hb3.mono (by have := hB.size; omega))
          clear hS2 hC2 hH2 hB hD hHa a0 a1 a2 a3 a4 a5 a6 a7 a8 a9 a10 a11 g1 g2 g3 hM hr2
          have hba := below_alloc w3 (.cells #[.int .i64 e2, .slice q3 ms2.length c3] 28)
          obtain ⟨m0, m1, m2⟩ := (hM3.below hba).three
          obtain ⟨a0, a1, a2, ⟨a3, a4, a5, a6, a7, a8⟩, a9, a10, a11⟩ := (hS3.below hba).state
          have hC4 := hC3.below hba
          have hH4 := hH3.below hba
          obtain ⟨c0, c1, c2, c3'⟩ := hC4.four
          obtain ⟨d0, d1⟩ := hH4.two
          obtain ⟨f0, f1, f2, f3⟩ := hC4.free4
          obtain ⟨j0, j1, j2, j3⟩ := hH4.free4
          have hB4 := hB3.trans (hba.mono (by have := hB3.size; omega))
          have hr4 := hr3.below hba
          have hN := At.new 28 w3 #[.int .i64 e2, .slice q3 ms2.length c3]
          obtain ⟨n0, n1⟩ := hN.two
          have hlt : b + 2 < w3.heap.size := hH3.lt
          have ne1 : ¬ b + 1 = w3.heap.size := by omega
          have ne2 : ¬ b + 2 = w3.heap.size := by omega
          have ne3 : ¬ w3.heap.size = b + 1 := by omega
          have ne4 : ¬ w3.heap.size = b + 2 := by omega
          go_wp2_with fail
          go_region
          all_goals go_wp2_with fail
          have hqb : ∀ a, q3 = some a → 0 < ms2.length → b + 2 < a.block := fun a ha h0 => Nat.lt_of_lt_of_le hX (hq3 a ha h0)
          exact bodyPost_ret (results_three (p := 2) (q := 3) (u := 4) rfl _ _ (b + 1) (b + 2) _ _ _ _ _ _ rfl rfl (((hC4.put4 _ _ _ _).other2 (b + 2) (by omega) _ _).drew) (((hH4.other4 (b + 1) (by omega) _ _ _ _).put2 _ _).drew)) rfl ⟨_, rfl, by
            rw [HR.out]
            exact ⟨q3, c3, rfl, fun a ha h0 => by have := hqb a ha h0; omega, (((hr4.put4 _ _ _ _ (fun a ha h0 => by have := hqb a ha h0; omega)).put _ _ (fun a ha h0 => by have := hqb a ha h0; omega))).drew⟩, Below.drewR (Below.put2 (Below.put4 hB4 (by omega) _ _ _ _) (by omega) _ _)⟩
    · obtain rfl : k = n := by omega
      have HR2 : Hid (R = none) := by unfold Hid; rw [← HR.out, List.drop_of_length_le (by rw [HL.out]; omega)]; rfl
      obtain ⟨c0, c1, c2, c3'⟩ := hC.four
      obtain ⟨d0, d1⟩ := hH.two
      obtain ⟨f0, f1, f2, f3⟩ := hC.free4
      obtain ⟨j0, j1, j2, j3⟩ := hH.free4
      clear HR hr HL
      go_wp2_with fail
      exact bodyPost_ret (results_three (p := 2) (q := 3) (u := 4) rfl _ _ (b + 1) (b + 2) _ _ _ _ _ _ rfl rfl ((hC.put4 _ _ _ _).other2 (b + 2) (by omega) _ _) ((hH.other4 (b + 1) (by omega) _ _ _ _).put2 _ _)) rfl ⟨_, rfl, by rw [HR2.out]; rfl, Below.put2 (Below.put4 hb (by omega) _ _ _ _) (by omega) _ _⟩

end Go.Proofs.YtigojnpjpagfjaaDoor.M
