/-
  Own text: all commands of a plan: the contract of the program's All.
-/
import Derived.Test.YtigojnpjpagfjaaDoorVCm
namespace Go.Proofs.YtigojnpjpagfjaaDoor.M
open Go.ChangeShapes Go.WideShapes Go.ChangeAt Go.RowKit

theorem wp_app0 {P : Program} {op : Oper} {a : Act} {w : World} {K : Act → World → Prop} {Q : Exit → Act → World → Prop} (s x : Operand) (t : TypeId) (hop : op.op = .call { callee := .builtin .append, args := #[s, x], argTypes := #[t, t] }) (u v : Value) (hs : a.eval s = u) (hx : a.eval x = v) (y : Value) (w' : World)
    (hrun : (Builtin.append_ #[t, t] op.type #[u, v]).run P w = .ok y w') (h : K (a.put op.dst y) w') : op.wp P a w K Q := by
  unfold Oper.wp
  simp [execOp, hop, resolve, invoke, builtin, hs, hx, hrun, Result.andThen]
  exact h

theorem RdC.set1c {W : World} {q : Option Addr} {n c : Nat} {L : List Cm} (h : RdC W q n c L) (b j : Nat) (v : Value) (hq : ∀ a, q = some a → a.block ≠ b) : RdC (W.setCell ⟨b, j, none⟩ v) q n c L := by
  refine ⟨h.len, h.cap, h.nil, fun hn => ?_⟩
  obtain ⟨g, o, rfl, hc⟩ := h.cells hn
  have hne := hq _ rfl
  have e : ∀ i, (W.setCell ⟨b, j, none⟩ v).cell? ⟨g, i, none⟩ = W.cell? ⟨g, i, none⟩ := fun i => World.cell?_setCell_other _ _ _ _ (fun h => hne (congrArg Addr.block h).symm)
  exact ⟨g, o, rfl, fun i hi => by rw [e, e, e, e]; exact hc i hi⟩

theorem RdC.drew {w : World} {p : Option Addr} {n c : Nat} {L : List Cm} (h : RdC w p n c L) : RdC w.drew p n c L := ⟨h.len, h.cap, h.nil, h.cells⟩

/-- Two boxes: a command, and the chain behind it. -/
def Cdm (g14 g15 : Nat) (xk xn xs xe e2 : Int) (q2 : Option Addr) (n2 c2 : Nat) (W : World) : Prop := At 37 W g14 #[.int .i64 xk, .int .i64 xn, .int .i64 xs, .int .i64 xe] ∧ At 28 W g15 #[.int .i64 e2, .slice q2 n2 c2]

set_option maxRecDepth 20000 in
set_option maxHeartbeats 4000000 in
theorem All_no (e : Int) (p : Option Addr) (n c : Nat) (ms : List Mb) (al : Nat) (h0 h1 h2 h3 h4 h5 v0 v1 v2 : Int) (w : World) (hr : RdM w p n c ms) (hn : n ≤ 5864062014805) (hk : chk e ms = false) :
    Calls Tryd.prog 17 #[.agg #[.int .i64 e, .slice p n c], .int .u64 (al : Int), .agg #[.int .i64 h0, .int .i64 h1, .int .i64 h2, .int .i64 h3, .int .i64 h4, .int .i64 h5], .agg #[.int .i64 v0, .int .i64 v1, .int .i64 v2]] w fun r w' => r = .returned (.tuple #[.slice none 0 0, .agg #[.int .i64 0, .slice none 0 0], .int .i64 80]) ∧ Below w.heap.size w w' := by
  have hb0 : Below w.heap.size w ((((w.alloc (.cells #[.int .i64 e, .slice p n c] 28)).alloc (.cells #[.int .i64 h0, .int .i64 h1, .int .i64 h2, .int .i64 h3, .int .i64 h4, .int .i64 h5] 23)).alloc (.cells #[.int .i64 v0, .int .i64 v1, .int .i64 v2] 25)).alloc (.cells #[.int .i64 0, .slice none 0 0] 28)) := ((((Below.refl _ _).alloc (Nat.le_refl _) _).alloc (by simp) _).alloc (by simp; omega) _).alloc (by simp; omega) _
  have hZ : At 28 ((((w.alloc (.cells #[.int .i64 e, .slice p n c] 28)).alloc (.cells #[.int .i64 h0, .int .i64 h1, .int .i64 h2, .int .i64 h3, .int .i64 h4, .int .i64 h5] 23)).alloc (.cells #[.int .i64 v0, .int .i64 v1, .int .i64 v2] 25)).alloc (.cells #[.int .i64 0, .slice none 0 0] 28)) (w.heap.size + 3) #[.int .i64 0, .slice none 0 0] := At.moved (by simp) (At.new 28 _ _)
  have hr0 := hr.below hb0
  generalize hw : w.heap.size = b at *
  have hG := begin_no e p n c ms al h0 h1 h2 h3 h4 h5 v0 v1 v2 _ hr0 hn hk
  clear hk hr hr0
  go_enter Tryd.func17, Tryd.ntmps17
  go_wp2_with fail
  refine hG.mono ?_
  rintro r w1 ⟨rfl, hb1⟩
  have hB1 := hb0.trans (hb1.mono (by have := hb0.size; omega))
  have hba := below_alloc w1 (.cells #[.int .i64 0, .slice none 0 0, .int .u64 0, .int .i64 0, .int .i64 0, .int .i64 0, .int .i64 0, .int .i64 0, .int .i64 0, .int .i64 0, .int .i64 0, .int .i64 0] 72)
  have hC1 := (hZ.below hb1).below hba
  have hB2 := hB1.trans (hba.mono (by have := hB1.size; omega))
  obtain ⟨c0, c1⟩ := hC1.two
  obtain ⟨f0, f1, f2, f3⟩ := hC1.free4
  clear hG hZ hb0 hb1 hba hB1
  go_wp2_with fail
  exact bodyPost_ret (results_all (u := 8) (p := 9) (t := 10) rfl _ _ (b + 3) _ _ rfl (hC1.put2 _ _)) rfl ⟨rfl, Below.put2 hB2 (by omega) _ _⟩

set_option maxRecDepth 20000 in
set_option maxHeartbeats 4000000 in
theorem All_bad (e : Int) (p : Option Addr) (n c : Nat) (ms : List Mb) (al : Nat) (h0 h1 h2 h3 h4 h5 v0 v1 v2 : Int) (w : World) (hr : RdM w p n c ms) (hn : n ≤ 5864062014805) (hk : chk e ms = true) (hp : planC [h0, h1, h2, h3, h4, h5] [v0, v1, v2] = false) :
    Calls Tryd.prog 17 #[.agg #[.int .i64 e, .slice p n c], .int .u64 (al : Int), .agg #[.int .i64 h0, .int .i64 h1, .int .i64 h2, .int .i64 h3, .int .i64 h4, .int .i64 h5], .agg #[.int .i64 v0, .int .i64 v1, .int .i64 v2]] w fun r w' => r = .returned (.tuple #[.slice none 0 0, .agg #[.int .i64 0, .slice none 0 0], .int .i64 1]) ∧ Below w.heap.size w w' := by
  have hb0 : Below w.heap.size w ((((w.alloc (.cells #[.int .i64 e, .slice p n c] 28)).alloc (.cells #[.int .i64 h0, .int .i64 h1, .int .i64 h2, .int .i64 h3, .int .i64 h4, .int .i64 h5] 23)).alloc (.cells #[.int .i64 v0, .int .i64 v1, .int .i64 v2] 25)).alloc (.cells #[.int .i64 0, .slice none 0 0] 28)) := ((((Below.refl _ _).alloc (Nat.le_refl _) _).alloc (by simp) _).alloc (by simp; omega) _).alloc (by simp; omega) _
  have hZ : At 28 ((((w.alloc (.cells #[.int .i64 e, .slice p n c] 28)).alloc (.cells #[.int .i64 h0, .int .i64 h1, .int .i64 h2, .int .i64 h3, .int .i64 h4, .int .i64 h5] 23)).alloc (.cells #[.int .i64 v0, .int .i64 v1, .int .i64 v2] 25)).alloc (.cells #[.int .i64 0, .slice none 0 0] 28)) (w.heap.size + 3) #[.int .i64 0, .slice none 0 0] := At.moved (by simp) (At.new 28 _ _)
  have hr0 := hr.below hb0
  generalize hw : w.heap.size = b at *
  have hG := begin_ok e p n c ms al h0 h1 h2 h3 h4 h5 v0 v1 v2 _ hr0 hn hk
  rw [hp] at hG
  unfold planV at hG
  simp only [Bool.false_eq_true, if_false] at hG
  clear hp
  clear hk hr hr0
  go_enter Tryd.func17, Tryd.ntmps17
  go_wp2_with fail
  refine hG.mono ?_
  rintro r w1 ⟨rfl, hb1⟩
  have hB1 := hb0.trans (hb1.mono (by have := hb0.size; omega))
  have hba := below_alloc w1 (.cells #[.int .i64 e, .slice p n c, .int .u64 (al : Int), .int .i64 h0, .int .i64 h1, .int .i64 h2, .int .i64 h3, .int .i64 h4, .int .i64 h5, .int .i64 v0, .int .i64 v1, .int .i64 v2] 72)
  have hC1 := (hZ.below hb1).below hba
  have hB2 := hB1.trans (hba.mono (by have := hB1.size; omega))
  obtain ⟨c0, c1⟩ := hC1.two
  obtain ⟨f0, f1, f2, f3⟩ := hC1.free4
  clear hG hZ hb0 hb1 hba hB1
  go_wp2_with fail
  exact bodyPost_ret (results_all (u := 8) (p := 9) (t := 10) rfl _ _ (b + 3) _ _ rfl (hC1.put2 _ _)) rfl ⟨rfl, Below.put2 hB2 (by omega) _ _⟩

set_option linter.unusedSimpArgs false in
set_option maxRecDepth 20000 in
set_option maxHeartbeats 8000000 in
theorem All_ok (e : Int) (p : Option Addr) (n c : Nat) (ms : List Mb) (al : Nat) (h0 h1 h2 h3 h4 h5 v0 v1 v2 : Int) (hv : (v0 ≤ 9223372036854775807 ∧ v1 ≤ 9223372036854775807) ∧ v2 ≤ 9223372036854775807) (w : World) (hal : al < 18446744073709551616) (hr : RdM w p n c ms) (hn : n ≤ 5864062014805) (ht : Tab w) (hk : chk e ms = true) (hp : planC [h0, h1, h2, h3, h4, h5] [v0, v1, v2] = true) :
    Calls Tryd.prog 17 #[.agg #[.int .i64 e, .slice p n c], .int .u64 (al : Int), .agg #[.int .i64 h0, .int .i64 h1, .int .i64 h2, .int .i64 h3, .int .i64 h4, .int .i64 h5], .agg #[.int .i64 v0, .int .i64 v1, .int .i64 v2]] w fun r w' => ∃ L e2 ms2 q c q2 c2, r = .returned (.tuple #[.slice q (L : List Cm).length c, .agg #[.int .i64 e2, .slice q2 (ms2 : List Mb).length c2], .int .i64 0]) ∧ Steps al [h0, h1, h2, h3, h4, h5] [v0, v1, v2] e ms L e2 ms2 ∧ (L.length ≤ muA al ms ∧ muA al ms ≤ 12) ∧ chk e2 ms2 = true ∧ RdC w' q L.length c L ∧ RdM w' q2 ms2.length c2 ms2 ∧ ((∀ a, q = some a → w.heap.size ≤ a.block) ∧ ∀ a, q2 = some a → 0 < ms2.length → w.heap.size ≤ a.block) ∧ Below w.heap.size w w' := by
  have hb0 : Below w.heap.size w ((((w.alloc (.cells #[.int .i64 e, .slice p n c] 28)).alloc (.cells #[.int .i64 h0, .int .i64 h1, .int .i64 h2, .int .i64 h3, .int .i64 h4, .int .i64 h5] 23)).alloc (.cells #[.int .i64 v0, .int .i64 v1, .int .i64 v2] 25)).alloc (.cells #[.int .i64 0, .slice none 0 0] 28)) := ((((Below.refl _ _).alloc (Nat.le_refl _) _).alloc (by simp) _).alloc (by simp; omega) _).alloc (by simp; omega) _
  have hZ : At 28 ((((w.alloc (.cells #[.int .i64 e, .slice p n c] 28)).alloc (.cells #[.int .i64 h0, .int .i64 h1, .int .i64 h2, .int .i64 h3, .int .i64 h4, .int .i64 h5] 23)).alloc (.cells #[.int .i64 v0, .int .i64 v1, .int .i64 v2] 25)).alloc (.cells #[.int .i64 0, .slice none 0 0] 28)) (w.heap.size + 3) #[.int .i64 0, .slice none 0 0] := At.moved (by simp) (At.new 28 _ _)
  have hr0 := hr.below hb0
  generalize hw : w.heap.size = b at *
  have hG := begin_ok e p n c ms al h0 h1 h2 h3 h4 h5 v0 v1 v2 _ hr0 hn hk
  rw [hp] at hG
  unfold planV at hG
  simp only [if_true] at hG
  have hmu : muA al ms ≤ 12 := by
    have := dead_live al ms
    have := (chk_parts hk).2.2.2
    unfold muA
    omega
  clear hp
  go_enter Tryd.func17, Tryd.ntmps17
  go_wp2_with fail
  refine hG.mono ?_
  rintro r w1 ⟨rfl, hb1⟩
  have hB1 := hb0.trans (hb1.mono (by have := hb0.size; omega))
  have hba := below_alloc w1 (.cells #[.int .i64 e, .slice p n c, .int .u64 (al : Int), .int .i64 h0, .int .i64 h1, .int .i64 h2, .int .i64 h3, .int .i64 h4, .int .i64 h5, .int .i64 v0, .int .i64 v1, .int .i64 v2] 72)
  have hS1 := At.new 72 w1 #[.int .i64 e, .slice p n c, .int .u64 (al : Int), .int .i64 h0, .int .i64 h1, .int .i64 h2, .int .i64 h3, .int .i64 h4, .int .i64 h5, .int .i64 v0, .int .i64 v1, .int .i64 v2]
  have hZ1 := (hZ.below hb1).below hba
  have hr1 := (hr0.below hb1).below hba
  have hB2 := hB1.trans (hba.mono (by have := hB1.size; omega))
  have hg3 : b + 3 < w1.heap.size := (hZ.below hb1).lt
  clear hG hb0 hb1 hba hB1 hZ hr0
  go_wp2_with fail
  generalize (w1.alloc (.cells #[.int .i64 e, .slice p n c, .int .u64 (al : Int), .int .i64 h0, .int .i64 h1, .int .i64 h2, .int .i64 h3, .int .i64 h4, .int .i64 h5, .int .i64 v0, .int .i64 v1, .int .i64 v2] 72)) = w2 at *
  generalize w1.heap.size = g at *
  go_loopg [13] (muA al ms) (fun gh v wr => ∃ (L : List Cm) (e' : Int) (q' : Option Addr) (n' c' : Nat) (ms' : List Mb), OwC wr (g + 1) v L ∧ chk e' ms' = true ∧ muA al ms' ≤ gh ∧ Hid (L.length + muA al ms' ≤ muA al ms) ∧ Hid (∀ l e3 ms3, Steps al [h0, h1, h2, h3, h4, h5] [v0, v1, v2] e' ms' l e3 ms3 → Steps al [h0, h1, h2, h3, h4, h5] [v0, v1, v2] e ms (L ++ l) e3 ms3) ∧ RdM wr q' n' c' ms' ∧ At 72 wr g #[.int .i64 e', .slice q' n' c', .int .u64 (al : Int), .int .i64 h0, .int .i64 h1, .int .i64 h2, .int .i64 h3, .int .i64 h4, .int .i64 h5, .int .i64 v0, .int .i64 v1, .int .i64 v2] ∧ At 28 wr (b + 3) #[.int .i64 0, .slice none 0 0] ∧ Below b w wr)
  case atStart => exact ⟨[], e, p, n, c, ms, OwC.nil _ _, hk, Nat.le_refl _, by show [].length + _ ≤ _; simp, (fun l e3 ms3 h => h), hr1, hS1, hZ1, hB2⟩
  case round =>
    clear hk hr1 hS1 hZ1 hB2 hr hn
    obtain ⟨L, e', q', n', c', ms', hO, hk, hgh, HLn, HT, hr, hS, hZ, hb⟩ := hrel
    obtain ⟨qv, cv, rfl⟩ := hO.shape
    have hsz : b ≤ wr.heap.size := by have := hb.size; omega
    have hn : n' ≤ 5864062014805 := by have := (chk_parts hk).2.2.2; have := hr.len; omega
    have hL12 := HLn.out
    have hRy := fun W hx => ready_any e' q' n' c' ms' al h0 h1 h2 h3 h4 h5 v0 v1 v2 W hal hx hn
    have hkA := readyA_chk (al := al) hk
    have hlv := readyA_lively (al := al) hk
    have hmA : muA al (readyA al e' ms') = muA al ms' := by rw [readyA_map hk]; unfold muA; rw [deadC_map, liveC_map]
    obtain ⟨R, HR⟩ : ∃ x, Hid (nextR al [h0, h1, h2, h3, h4, h5] [v0, v1, v2] e' (readyA al e' ms') = x) := ⟨_, rfl⟩
    have hNx := fun q d W hx hy => next_any e' q n' d (readyA al e' ms') al h0 h1 h2 h3 h4 h5 v0 v1 v2 hv W hal hx hn hy
    rw [HR.out] at hNx
    have HD : Hid (R = none → Steps al [h0, h1, h2, h3, h4, h5] [v0, v1, v2] e ms (L ++ []) e' (readyA al e' ms')) := fun h => HT.out _ _ _ (Steps.done (HR.out.trans h))
    have HE : Hid (∀ x e2 ms2, R = some (x, e2, ms2) → chk e2 ms2 = true ∧ muA al ms2 < muA al ms' ∧ ∀ l e3 ms3, Steps al [h0, h1, h2, h3, h4, h5] [v0, v1, v2] e2 ms2 l e3 ms3 → Steps al [h0, h1, h2, h3, h4, h5] [v0, v1, v2] e ms ((L ++ [x]) ++ l) e3 ms3) := fun x e2 ms2 h => by
      obtain ⟨c1, _, c3⟩ := next_less hkA hlv (HR.out.trans h)
      refine ⟨c1, by omega, fun l e3 ms3 hst => ?_⟩
      rw [List.append_assoc]
      exact HT.out _ _ _ (Steps.step (HR.out.trans h) hst)
    have HAl : Hid ((readyA al e' ms').length = n') := by unfold Hid; rw [readyA_map hk, List.length_map]; exact hr.len
    generalize readyA al e' ms' = msA at *
    obtain ⟨a0, a1, a2, ⟨a3, a4, a5, a6, a7, a8⟩, a9, a10, a11⟩ := hS.state
    clear HR HT hmA hk hlv
    go_wp2_with fail
    refine (hRy _ hr).mono ?_
    rintro r w3 ⟨qa, da, rfl, hqa, hrA, hb3⟩
    have hS3 := hS.below hb3
    have hglt : g < wr.heap.size := hS.lt
    have hSa : At 72 _ g #[.int .i64 e', .slice q' n' c', .int .u64 (al : Int), .int .i64 h0, .int .i64 h1, .int .i64 h2, .int .i64 h3, .int .i64 h4, .int .i64 h5, .int .i64 v0, .int .i64 v1, .int .i64 v2] := hS3.set 0 (.int .i64 e')
    have hSb : At 72 _ g #[.int .i64 e', .slice qa n' da, .int .u64 (al : Int), .int .i64 h0, .int .i64 h1, .int .i64 h2, .int .i64 h3, .int .i64 h4, .int .i64 h5, .int .i64 v0, .int .i64 v1, .int .i64 v2] := hSa.set 1 (.slice qa n' da)
    have hZ3 := (hZ.below hb3).other2 g (by omega) (.int .i64 e') (.slice qa n' da)
    have hO3 := ((hO.below hb3).set (u := .int .i64 e') (by omega : g < g + 1) 0).set (u := .slice qa n' da) (by omega : g < g + 1) 1
    have hr3 := hrA.put (.int .i64 e') (.slice qa n' da) (fun a ha h0 => by have := hqa a ha h0; omega : ∀ a, qa = some a → 0 < n' → a.block ≠ g)
    have hB3 := hb.trans (hb3.mono hsz)
    have hB4 := Below.put2 hB3 (by omega : b ≤ g) (.int .i64 e') (.slice qa n' da)
    have ht4 := ht.below (by rw [hw]; exact hB4)
    have hw4s : wr.heap.size ≤ ((w3.setCell ⟨g, 0, none⟩ (.int .i64 e')).setCell ⟨g, 1, none⟩ (.slice qa n' da)).heap.size := by simpa using hb3.size
    have hqw : ∀ r, (Value.slice qv L.length cv).ownBlock = some r → r < wr.heap.size := fun r hr => (hO.own hr).2
    obtain ⟨a0', a1', _⟩ := hS3.state
    obtain ⟨⟨f0, f1, f2, f3, f4, f5⟩, _⟩ := hS3.free12
    clear a0 a1 a2 a3 a4 a5 a6 a7 a8 a9 a10 a11 hRy hS3 hSa hS hZ hO hr hrA hb hb3 hB3
    go_wp2_with fail
    generalize ((w3.setCell ⟨g, 0, none⟩ (.int .i64 e')).setCell ⟨g, 1, none⟩ (.slice qa n' da)) = w4 at *
    refine (hNx _ _ _ hr3 ht4).mono ?_
    rintro r w5 ⟨x5, rfl, hg5, hb5⟩
    have hS5 := hSb.below hb5
    have hZ5 := hZ3.below hb5
    have hO5 := hO3.below hb5
    have hr5 := hr3.below hb5
    have hB5 := hB4.trans (hb5.mono (by have := hB4.size; omega))
    clear hSb hZ3 hO3 hr3 hB4 ht4 hNx a0' a1' f0 f1 f2 f3 f4 f5
    cases R with
    | none =>
      obtain rfl := hg5
      have hba := below_alloc w5 (.cells #[.int .i64 0, .int .i64 0, .int .i64 0, .int .i64 0] 37)
      have hbb := below_alloc (w5.alloc (.cells #[.int .i64 0, .int .i64 0, .int .i64 0, .int .i64 0] 37)) (.cells #[.int .i64 0, .slice none 0 0] 28)
      have hS6 := (hS5.below hba).below hbb
      have hZ6 := (hZ5.below hba).below hbb
      have hO6 := (hO5.below hba).below hbb
      have hr6 := (hr5.below hba).below hbb
      have hB6 := hB5.trans (hba.mono (by have := hB5.size; omega))
      have hB7 := hB6.trans (hbb.mono (by have := hB6.size; omega))
      have hD := HD.out rfl
      rw [List.append_nil] at hD
      obtain ⟨a0, a1, a2, ⟨a3, a4, a5, a6, a7, a8⟩, a9, a10, a11⟩ := hS6.state
      obtain ⟨z0, z1⟩ := hZ6.two
      obtain ⟨f0, f1, f2, f3⟩ := hZ6.free4
      clear hS5 hZ5 hO5 hr5 hB5 hB6 hba hbb HE HD
      have HDD : Hid (Steps al [h0, h1, h2, h3, h4, h5] [v0, v1, v2] e ms L e' msA) := hD
      have HkA : Hid (chk e' msA = true) := hkA
      clear hD hkA
      go_wp2_with fail
      go_region
      all_goals go_wp2_with fail
      obtain ⟨q9, c9, e9, hRC⟩ := hO6.rd
      cases e9
      have hqb : ∀ a, qa = some a → 0 < n' → a.block ≠ b + 3 := fun a ha h0 => by have := hqa a ha h0; omega
      have hqc : ∀ a, qv = some a → a.block ≠ b + 3 := fun a ha => by have := (hO6.own (r := a.block) (by rw [ha]; rfl)).1; omega
      have hRC2 := ((hRC.set1c (b + 3) 0 (.int .i64 e') hqc).set1c (b + 3) 1 (.slice qa n' da) hqc)
      exact bodyPost_ret (results_all (u := 8) (p := 9) (t := 10) rfl _ _ (b + 3) _ _ rfl ((hZ6.put2 _ _).drew)) rfl ⟨L, e', msA, _, _, qa, da, by rw [HAl.out]; rfl, HDD.out, ⟨by omega, hmu⟩, HkA.out, hRC2.drew, by rw [HAl.out]; exact (hr6.put _ _ hqb).drew, ⟨fun a ha => by have := (hO6.own (r := a.block) (by rw [ha]; rfl)).1; omega, fun a ha h0 => by rw [HAl.out] at h0; have := hqa a ha h0; omega⟩, Below.drewR (Below.put2 hB7 (by omega) _ _)⟩
    | some y =>
      obtain ⟨⟨xk, xn, xs, xe⟩, e2, ms2⟩ := y
      obtain ⟨q2, c2, rfl, hq2, hr2⟩ := hg5
      obtain ⟨hk2, hm2, HT2'⟩ := HE.out _ _ _ rfl
      have HT2 : Hid (∀ l e3 ms3, Steps al [h0, h1, h2, h3, h4, h5] [v0, v1, v2] e2 ms2 l e3 ms3 → Steps al [h0, h1, h2, h3, h4, h5] [v0, v1, v2] e ms ((L ++ [⟨xk, xn, xs, xe⟩]) ++ l) e3 ms3) := HT2'
      generalize hn2 : ms2.length = n2 at *
      dsimp only
      have hba := below_alloc w5 (.cells #[.int .i64 xk, .int .i64 xn, .int .i64 xs, .int .i64 xe] 37)
      have hbb := below_alloc (w5.alloc (.cells #[.int .i64 xk, .int .i64 xn, .int .i64 xs, .int .i64 xe] 37)) (.cells #[.int .i64 e2, .slice q2 n2 c2] 28)
      have hS00 := (hS5.below hba).below hbb
      have hZ0 := (hZ5.below hba).below hbb
      have hO0 := (hO5.below hba).below hbb
      have hr20 := (hr2.below hba).below hbb
      have hB6 := hB5.trans (hba.mono (by have := hB5.size; omega))
      have hB0 := hB6.trans (hbb.mono (by have := hB6.size; omega))
      have hX0 := (At.new 37 w5 #[.int .i64 xk, .int .i64 xn, .int .i64 xs, .int .i64 xe]).below hbb
      have hY0 : At 28 _ (w5.heap.size + 1) _ := At.moved (by simp) (At.new 28 (w5.alloc (.cells #[.int .i64 xk, .int .i64 xn, .int .i64 xs, .int .i64 xe] 37)) #[.int .i64 e2, .slice q2 n2 c2])
      have hw5s := hb5.size
      have hne14 : (Value.slice qv L.length cv).ownBlock ≠ some w5.heap.size := fun e => by have := hqw _ e; omega
      have hne15 : (Value.slice qv L.length cv).ownBlock ≠ some (w5.heap.size + 1) := fun e => by have := hqw _ e; omega
      have hq20 : ∀ a, q2 = some a → 0 < n2 → w4.heap.size ≤ a.block := hq2
      clear hba hbb hS5 hZ5 hO5 hr5 hB5 hB6 hb5 HE HD HT2' hr2 hq2 hkA
      go_wp2_with fail
      generalize ((w5.alloc (.cells #[.int .i64 xk, .int .i64 xn, .int .i64 xs, .int .i64 xe] 37)).alloc (.cells #[.int .i64 e2, .slice q2 n2 c2] 28)) = V0 at *
      generalize hg15 : w5.heap.size + 1 = g15 at *
      generalize w5.heap.size = g14 at *
      have hS0 : Bl V0 V0.drew := (Below.refl _ _).drew
      have hCd : ∀ W, Bl V0 W → Cdm g14 g15 xk xn xs xe e2 q2 n2 c2 W := fun W h => ⟨hX0.below (Bl.out0 h), hY0.below (Bl.out0 h)⟩
      refine wp_region_det [0, 1, 4, 5, 6] (Cdm g14 g15 xk xn xs xe e2 q2 n2 c2) (Bl V0) (by kernel_rfl) hS0 ?_
      refine wpDet_take ?vA0 (Bl.stays V0) (fun W h => hCd W h) (i := 0) rfl (by kernel_rfl) (by kernel_rfl) (by kernel_rfl) (by kernel_rfl) (fun _ _ _ h => h) (Gives.value (by rfl) ?yA0) ?rA0
      case yA0 => (intro w' hSw; obtain ⟨z0, z1, z2, z3⟩ := hSw.1.four; obtain ⟨y0, y1⟩ := hSw.2.two; clear hSw; go_simp; try with_reducible rfl)
      (try simp only [Act.put, List.getElem_toArray, List.getElem_cons_zero, List.getElem_cons_succ, List.setIfInBounds_toArray, List.set_cons_zero, List.set_cons_succ])
      refine wpDet_take ?vA1 (Bl.stays V0) (fun W h => hCd W h) (i := 1) rfl (by kernel_rfl) (by kernel_rfl) (by kernel_rfl) (by kernel_rfl) (fun _ _ _ h => h) (Gives.value (by rfl) ?yA1) ?rA1
      case yA1 => (intro w' hSw; obtain ⟨z0, z1, z2, z3⟩ := hSw.1.four; obtain ⟨y0, y1⟩ := hSw.2.two; clear hSw; go_simp; try with_reducible rfl)
      (try simp only [Act.put, List.getElem_toArray, List.getElem_cons_zero, List.getElem_cons_succ, List.setIfInBounds_toArray, List.set_cons_zero, List.set_cons_succ])
      refine wpDet_take ?vA4 (Bl.stays V0) (fun W h => hCd W h) (i := 4) rfl (by kernel_rfl) (by kernel_rfl) (by kernel_rfl) (by kernel_rfl) (fun _ _ _ h => h) (Gives.value (by rfl) ?yA4) ?rA4
      case yA4 => (intro w' hSw; obtain ⟨z0, z1, z2, z3⟩ := hSw.1.four; obtain ⟨y0, y1⟩ := hSw.2.two; clear hSw; go_simp; try with_reducible rfl)
      (try simp only [Act.put, List.getElem_toArray, List.getElem_cons_zero, List.getElem_cons_succ, List.setIfInBounds_toArray, List.set_cons_zero, List.set_cons_succ])
      refine wpDet_ready (rs := [2]) (by kernel_rfl) (by simp) (AllDet.cons rfl (fun V hV K hK => ?_) AllDet.nil)
      rw [if_pos (by rfl)]
      refine wp_value (.slice (some ⟨V.heap.size, 0, none⟩) 1 1) (V.alloc (.cells #[.int .i64 xk, .int .i64 xn, .int .i64 xs, .int .i64 xe] 37)) (by first | (go_simp; done) | (go_simp; rfl)) ?_
      refine hK.out (fun W => Bl V0 W ∧ At 37 W V.heap.size #[.int .i64 xk, .int .i64 xn, .int .i64 xs, .int .i64 xe]) _ _ ((Bl.stays V0).and (fun _ _ h hb => h.below hb)) (fun _ _ h => hCd _ h.1) ⟨Bl.stays V0 V _ hV (below_alloc _ _), At.new _ _ _⟩ ?_
      clear hK K hV
      generalize V.heap.size = y at *
      (try simp only [Act.put, List.getElem_toArray, List.getElem_cons_zero, List.getElem_cons_succ, List.setIfInBounds_toArray, List.set_cons_zero, List.set_cons_succ])
      refine wpDet_ready (rs := [3]) (by kernel_rfl) (by simp) (AllDet.cons rfl (fun V hV K hK => ?_) AllDet.nil)
      rw [if_pos (by rfl)]
      have hV1 := Bl.out0 hV.1
      obtain ⟨v6, V6, hrun, hO6, hg6⟩ := app_cm V 46 (g + 1) _ L ⟨xk, xn, xs, xe⟩ (hO0.below hV1) y 1 hV.2 (by omega) (by have := hV1.size; have := hS00.lt; omega)
      refine wp_app0 _ _ _ rfl _ _ rfl rfl _ V6 hrun ?_
      have hX6 : At 37 V6 g14 #[.int .i64 xk, .int .i64 xn, .int .i64 xs, .int .i64 xe] := (hX0.below hV1).grown hg6 (fun e => hne14 e.symm)
      have hY6 : At 28 V6 g15 #[.int .i64 e2, .slice q2 n2 c2] := (hY0.below hV1).grown hg6 (fun e => hne15 e.symm)
      have hS6 := (hS00.below hV1).grown hg6 (fun e => by have := (hO0.own e.symm).1; omega)
      have hZ6 := (hZ0.below hV1).grown hg6 (fun e => by have := (hO0.own e.symm).1; omega)
      have hr6 := (hr20.below hV1).grown hg6 (fun a ha h0 e => by have := hqw _ e.symm; have := hq20 a ha h0; omega)
      have hVl := hV1.size
      have hB6 : Below b w V6 := Below.grew (hB0.trans (hV1.mono (by have := hB0.size; omega))) hg6 (by have := hB0.size; omega) (fun r hr => by have := (hO0.own hr).1; omega)
      refine hK.out (Bl V6) _ _ (Bl.stays V6) (fun _ _ h => ⟨hX6.below (Bl.out0 h), hY6.below (Bl.out0 h)⟩) (Below.refl _ _) ?_
      obtain ⟨qv, cv, rfl⟩ := hO6.shape
      clear hK K hV hrun hCd
      (try simp only [Act.put, List.getElem_toArray, List.getElem_cons_zero, List.getElem_cons_succ, List.setIfInBounds_toArray, List.set_cons_zero, List.set_cons_succ])
      refine wpDet_take ?vB5 (Bl.stays V6) (fun _ h => ⟨hX6.below (Bl.out0 h), hY6.below (Bl.out0 h)⟩) (i := 5) rfl (by kernel_rfl) (by kernel_rfl) (by kernel_rfl) (by kernel_rfl) (fun _ _ _ h => h) (Gives.value (by rfl) ?yB5) ?rB5
      case yB5 => (intro w' hSw; go_simp; try with_reducible rfl)
      (try simp only [Act.put, List.getElem_toArray, List.getElem_cons_zero, List.getElem_cons_succ, List.setIfInBounds_toArray, List.set_cons_zero, List.set_cons_succ])
      refine wpDet_take ?vB6 (Bl.stays V6) (fun _ h => ⟨hX6.below (Bl.out0 h), hY6.below (Bl.out0 h)⟩) (i := 6) rfl (by kernel_rfl) (by kernel_rfl) (by kernel_rfl) (by kernel_rfl) (fun _ _ _ h => h) (Gives.value (by rfl) ?yB6) ?rB6
      case yB6 => (intro w' hSw; go_simp; try with_reducible rfl)
      (try simp only [Act.put, List.getElem_toArray, List.getElem_cons_zero, List.getElem_cons_succ, List.setIfInBounds_toArray, List.set_cons_zero, List.set_cons_succ])
      refine wpDet_ready (rs := [7]) (by kernel_rfl) (by simp) (AllDet.cons rfl (fun V7 hV K hK => ?_) AllDet.nil)
      rw [if_pos (by rfl)]
      have hV7 := Bl.out0 hV
      have hS7 := hS6.below hV7
      obtain ⟨s0, s1, _⟩ := hS7.state
      have hth : V7.there g 0 2 := fun j hj => by rw [Nat.zero_add]; match j, hj with | 0, _ => exact ⟨by rw [s0]; rfl, hS7.free 0⟩ | 1, _ => exact ⟨by rw [s1]; rfl, hS7.free 1⟩
      refine wp_store_mid 28 _ _ rfl g 0 #[.int .i64 e2, .slice q2 n2 c2] rfl rfl hth sizeC (one2 _ _ _ _) ?_
      refine hK.out (Bl ((V7.setCell ⟨g, 0, none⟩ (.int .i64 e2)).setCell ⟨g, 1, none⟩ (.slice q2 n2 c2))) _ _ (Bl.stays _) (no_lean (by kernel_rfl)) (Below.refl _ _) ?_
      clear hK K hV hth s0 s1
      (try simp only [Act.put, List.getElem_toArray, List.getElem_cons_zero, List.getElem_cons_succ, List.setIfInBounds_toArray, List.set_cons_zero, List.set_cons_succ])
      refine wpDet_done (by kernel_rfl) (fun W3 hW3 => ?_) _
      have hO7 := (((hO6.below hV7).set (u := .int .i64 e2) (by omega : g < g + 1) 0).set (u := .slice q2 n2 c2) (by omega : g < g + 1) 1).below (Bl.out0 hW3)
      have hr7 := ((hr6.below hV7).put (.int .i64 e2) (.slice q2 n2 c2) (fun a ha h0 => by have := hq20 a ha h0; omega)).below (Bl.out0 hW3)
      have hSa : At 72 _ g #[.int .i64 e2, .slice qa n' da, .int .u64 (al : Int), .int .i64 h0, .int .i64 h1, .int .i64 h2, .int .i64 h3, .int .i64 h4, .int .i64 h5, .int .i64 v0, .int .i64 v1, .int .i64 v2] := hS7.set 0 (.int .i64 e2)
      have hSb : At 72 _ g #[.int .i64 e2, .slice q2 n2 c2, .int .u64 (al : Int), .int .i64 h0, .int .i64 h1, .int .i64 h2, .int .i64 h3, .int .i64 h4, .int .i64 h5, .int .i64 v0, .int .i64 v1, .int .i64 v2] := hSa.set 1 (.slice q2 n2 c2)
      have hS8 := hSb.below (Bl.out0 hW3)
      have hZ8 := ((hZ6.below hV7).other2 g (by omega) (.int .i64 e2) (.slice q2 n2 c2)).below (Bl.out0 hW3)
      have hB7 := hB6.trans (hV7.mono (by have := hB6.size; omega))
      have hB8 := Below.put2 hB7 (by omega : b ≤ g) (.int .i64 e2) (.slice q2 n2 c2)
      have hB9 := hB8.trans ((Bl.out0 hW3).mono (by have := hB8.size; omega))
      go_wp2_with fail
      go_roundg (muA al ms2)
      case measure => omega
      case rel => exact ⟨L ++ [(⟨xk, xn, xs, xe⟩ : Cm)], e2, q2, n2, c2, ms2, (by have h9 := hO7; rw [List.length_append] at h9; exact h9), hk2, Nat.le_refl _, by unfold Hid; rw [List.length_append]; have := HLn.out; simp only [List.length_cons, List.length_nil]; omega, HT2, hr7, hS8, hZ8, hB9⟩

end Go.Proofs.YtigojnpjpagfjaaDoor.M
