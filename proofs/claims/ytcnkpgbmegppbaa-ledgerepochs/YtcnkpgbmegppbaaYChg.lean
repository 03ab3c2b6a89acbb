/-
  Own text: what becomes of a chain: contracts of layout's last, follow, without, Drop, DropSite.
-/
import Derived.Test.YtcnkpgbmegppbaaYIns2
namespace Go.Proofs.Ytcnkpgbmegppbaa.M
open Go.ChangeShapes Go.WideShapes Go.ChangeAt Go.RowKit

/-- A chain, or why there is none. -/
abbrev CR := Except Int (Int × List Mb)

/-- What is told: none and an error, or a chain that can be read, in memory not below B. -/
def Told (B : Nat) (w : World) (v : Value) : CR → Prop
  | .error k => v = .tuple #[.agg #[.int .i64 0, .slice none 0 0], .int .i64 k]
  | .ok (e, ms) => ∃ q c, v = .tuple #[.agg #[.int .i64 e, .slice q ms.length c], .int .i64 0] ∧ (∀ a, q = some a → 0 < ms.length → B ≤ a.block) ∧ RdM w q ms.length c ms

theorem Told.below {B : Nat} {w w' : World} {v : Value} {R : CR} (h : Told B w v R) (hb : Below w.heap.size w w') : Told B w' v R := by
  match R, h with
  | .error _, h => exact h
  | .ok (_, _), ⟨q, c, h1, h3, h2⟩ => exact ⟨q, c, h1, h3, h2.below hb⟩

theorem Told.lower {B B' : Nat} {w : World} {v : Value} {R : CR} (h : Told B w v R) (hb : B' ≤ B) : Told B' w v R := by
  match R, h with
  | .error _, h => exact h
  | .ok (_, _), ⟨q, c, h1, h3, h2⟩ => exact ⟨q, c, h1, fun a ha hn => Nat.le_trans hb (h3 a ha hn), h2⟩

set_option maxRecDepth 20000 in
theorem last_any (e : Int) (p : Option Addr) (n c : Nat) (w : World) : Calls Try.prog 80 #[.agg #[.int .i64 e, .slice p n c]] w fun r w' => r = .returned (.bool (decide (1099511627776 ≤ e))) ∧ Below w.heap.size w w' := by
  have hb0 : Below w.heap.size w (w.alloc (.cells #[.int .i64 e, .slice p n c] 42)) := (Below.refl _ _).alloc (Nat.le_refl _) _
  go_enter Try.func80, Try.ntmps80
  go_wp2_with fail
  go_ret
  exact ⟨rfl, hb0⟩

theorem sizeC : (Try.prog.info? 42).map (·.size) = some 2 := by kernel_rfl

theorem results_chain {fn : Func} {p u : Tmp} (h : fn.results = #[.cell p 42, .tmp u]) (tmps : Array Value) (w : World) (g : Nat) (x y : Value) (hp : tmps.getD p undef = .pointer (some ⟨g, 0, none⟩)) (c0 : w.cell? ⟨g, 0, none⟩ = some x) (c1 : w.cell? ⟨g, 1, none⟩ = some y) :
    (results fn tmps).run Try.prog w = .ok (.tuple #[.agg #[x, y], tmps.getD u undef]) w := by
  have hp' : tmps[p]?.getD undef = .pointer (some ⟨g, 0, none⟩) := by simpa using hp
  have hl := run_loadVar_mid (P := Try.prog) w g 0 42 [x, y] _ (fun j v hj => by
    rw [Nat.zero_add]
    match j, hj with
    | 0, hj => cases hj; exact c0
    | 1, hj => cases hj; exact c1) Try.underlying42 rfl sizeC
  simp [results, h, hp', asAddr, hl]

set_option maxRecDepth 20000 in
theorem follow_any (e : Int) (p : Option Addr) (n c : Nat) (q : Option Addr) (k d : Nat) (w : World) (h1 : 1 ≤ e) (h2 : e < 1099511627776) : Calls Try.prog 81 #[.agg #[.int .i64 e, .slice p n c], .slice q k d] w fun r w' => r = .returned (.tuple #[.agg #[.int .i64 (e + 1), .slice q k d], .int .i64 0]) ∧ Below w.heap.size w w' := by
  have hb0 : Below w.heap.size w ((w.alloc (.cells #[.int .i64 e, .slice p n c] 42)).alloc (.cells #[.int .i64 (e + 1), .slice q k d] 42)) := ((Below.refl _ _).alloc (Nat.le_refl _) _).alloc (by simp) _
  have c0 : ((w.alloc (.cells #[.int .i64 e, .slice p n c] 42)).alloc (.cells #[.int .i64 (e + 1), .slice q k d] 42)).cell? ⟨w.heap.size + 1, 0, none⟩ = some (.int .i64 (e + 1)) := by simp
  have c1 : ((w.alloc (.cells #[.int .i64 e, .slice p n c] 42)).alloc (.cells #[.int .i64 (e + 1), .slice q k d] 42)).cell? ⟨w.heap.size + 1, 1, none⟩ = some (.slice q k d) := by simp
  go_enter Try.func81, Try.ntmps81
  go_wp2_with fail
  exact bodyPost_ret (results_chain (p := 4) (u := 5) rfl _ _ (w.heap.size + 1) _ _ rfl c0 c1) rfl ⟨rfl, hb0⟩

/-- A chain without those of whom something is so. -/
def cutR (pr : Mb → Bool) (e : Int) (ms : List Mb) : CR :=
  if chk e ms = false then .error 80 else if 1099511627776 ≤ e then .error 5 else
  if (ms.filter (fun m => !pr m)).length = ms.length then .error 81 else
  if ixM (fun m => !m.f) 0 (ms.filter (fun m => !pr m)) < 0 then .error 83 else
  .ok (e + 1, (ms.filter (fun m => !pr m)).drop (ixM (fun m => !m.f) 0 (ms.filter (fun m => !pr m))).toNat)

theorem chk_parts {e : Int} {ms : List Mb} (h : chk e ms = true) : 1 ≤ e ∧ e ≤ 1099511627776 ∧ 0 < ms.length ∧ ms.length ≤ 6 := by
  have h2 := h
  rw [← rchk_eq] at h2
  unfold rchk at h2
  simp only [Bool.and_eq_true, decide_eq_true_eq] at h2
  refine ⟨h2.1, h2.2.1, ?_, h2.2.2.1⟩
  cases ms with
  | nil => have := h2.2.2.2.1; cases this
  | cons m l => simp

theorem RdM.back {w : World} {p : Option Addr} {n c k : Nat} {ms : List Mb} (h : RdM w p n c ms) (hk : k < n) : ∃ b o, p = some ⟨b, o, none⟩ ∧ RdM w (some ⟨b, o + k * 3, none⟩) (n - k) (c - k) (ms.drop k) := by
  obtain ⟨b, o, rfl, hc⟩ := h.flat (by omega)
  have hl := h.len
  have hcp := h.cap
  refine ⟨b, o, rfl, RdM.of_flat (by rw [List.length_drop]; omega) (by omega) fun j hj => ?_⟩
  rw [Nat.add_assoc, hc (k * 3 + j) (by omega)]
  have e : j = j / 3 * 3 + j % 3 := by omega
  have hm : j % 3 < 3 := Nat.mod_lt _ (by decide)
  rw [show k * 3 + j = (k + j / 3) * 3 + j % 3 by omega]
  conv => rhs; rw [e]
  refine congrArg some (cellAt_shift ?_ hm)
  rw [List.getD_eq_getElem?_getD, List.getD_eq_getElem?_getD, List.getElem?_drop]

/-- A chain in a box, and behind it the box of a chain that is answered. -/
structure Fr (W : World) (b : Nat) (e : Int) (p : Option Addr) (n c : Nat) : Prop where
  a0 : W.cell? ⟨b, 0, none⟩ = some (.int .i64 e)
  a1 : W.cell? ⟨b, 1, none⟩ = some (.slice p n c)
  b0 : W.cell? ⟨b + 1, 0, none⟩ = some (.int .i64 0)
  b1 : W.cell? ⟨b + 1, 1, none⟩ = some (.slice none 0 0)
  f0 : W.frozen? ⟨b + 1, 0, none⟩ = false
  f1 : W.frozen? ⟨b + 1, 1, none⟩ = false
  lt : b + 1 < W.heap.size

theorem Fr.new (w : World) (e : Int) (p : Option Addr) (n c : Nat) : Fr ((w.alloc (.cells #[.int .i64 e, .slice p n c] 42)).alloc (.cells #[.int .i64 0, .slice none 0 0] 42)) w.heap.size e p n c :=
  ⟨by simp, by simp, by simp, by simp, by simp, by simp, by simp⟩

theorem Fr.low {W W' : World} {B b : Nat} {e : Int} {p : Option Addr} {n c : Nat} (h : Fr W b e p n c) (hb : Below B W W') (hB : b + 1 < B) : Fr W' b e p n c :=
  ⟨(hb.cell (p := ⟨b, 0, none⟩) (by show b < B; omega)).trans h.a0, (hb.cell (p := ⟨b, 1, none⟩) (by show b < B; omega)).trans h.a1, (hb.cell (p := ⟨b + 1, 0, none⟩) hB).trans h.b0, (hb.cell (p := ⟨b + 1, 1, none⟩) hB).trans h.b1, (hb.frozen (p := ⟨b + 1, 0, none⟩) hB).trans h.f0, (hb.frozen (p := ⟨b + 1, 1, none⟩) hB).trans h.f1, Nat.lt_of_lt_of_le h.lt hb.size⟩

theorem Fr.below {W W' : World} {b : Nat} {e : Int} {p : Option Addr} {n c : Nat} (h : Fr W b e p n c) (hb : Below W.heap.size W W') : Fr W' b e p n c := h.low hb h.lt

theorem Fr.put0 {W : World} {b : Nat} {e : Int} {p : Option Addr} {n c : Nat} (h : Fr W b e p n c) (x y : Value) : ((W.setCell ⟨b + 1, 0, none⟩ x).setCell ⟨b + 1, 1, none⟩ y).cell? ⟨b + 1, 0, none⟩ = some x := by
  rw [World.cell?_setCell_other (h := by simp), World.cell?_setCell_same (h := h.b0)]

theorem Fr.put1 {W : World} {b : Nat} {e : Int} {p : Option Addr} {n c : Nat} (h : Fr W b e p n c) (x y : Value) : ((W.setCell ⟨b + 1, 0, none⟩ x).setCell ⟨b + 1, 1, none⟩ y).cell? ⟨b + 1, 1, none⟩ = some y := by
  have e1 : (W.setCell ⟨b + 1, 0, none⟩ x).cell? ⟨b + 1, 1, none⟩ = some (.slice none 0 0) := by
    rw [World.cell?_setCell_other (h := by simp)]
    exact h.b1
  rw [World.cell?_setCell_same (h := e1)]

theorem Fr.putB {W : World} {b : Nat} {w : World} (h : Below b w W) (x y : Value) : Below b w ((W.setCell ⟨b + 1, 0, none⟩ x).setCell ⟨b + 1, 1, none⟩ y) := (h.setCell (by show b ≤ b + 1; omega) x).setCell (by show b ≤ b + 1; omega) y

theorem RdM.put {W : World} {q : Option Addr} {n c b : Nat} {ms : List Mb} (h : RdM W q n c ms) (x y : Value) (hq : ∀ a, q = some a → 0 < n → a.block ≠ b) : RdM ((W.setCell ⟨b, 0, none⟩ x).setCell ⟨b, 1, none⟩ y) q n c ms := by
  refine ⟨h.len, h.cap, h.nil, fun hn => ?_⟩
  obtain ⟨g, o, rfl, hc⟩ := h.cells hn
  have hne := hq _ rfl hn
  have e : ∀ j, ((W.setCell ⟨b, 0, none⟩ x).setCell ⟨b, 1, none⟩ y).cell? ⟨g, j, none⟩ = W.cell? ⟨g, j, none⟩ := fun j => by
    rw [World.cell?_setCell_other (h := fun h => hne (congrArg Addr.block h).symm), World.cell?_setCell_other (h := fun h => hne (congrArg Addr.block h).symm)]
  exact ⟨g, o, rfl, fun i hi => by rw [e, e, e]; exact hc i hi⟩

set_option maxRecDepth 20000 in
set_option maxHeartbeats 2000000 in
theorem without_any (F : FuncId) (hcf : Cf F) (caps : Array Value) (pr : Mb → Bool) (e : Int) (p : Option Addr) (n c : Nat) (ms : List Mb) (w : World) (hr : RdM w p n c ms) (hn : n ≤ 5864062014805) (hA : Asks F caps w pr) :
    Calls Try.prog 77 #[.agg #[.int .i64 e, .slice p n c], .func (.func F) #[] caps] w fun r w' => ∃ v, r = .returned v ∧ Told w.heap.size w' v (cutR pr e ms) ∧ Below w.heap.size w w' := by
  have hF := Fr.new w e p n c
  have hb0 : Below w.heap.size w ((w.alloc (.cells #[.int .i64 e, .slice p n c] 42)).alloc (.cells #[.int .i64 0, .slice none 0 0] 42)) := ((Below.refl _ _).alloc (Nat.le_refl _) _).alloc (by simp) _
  have hl := hr.len
  have hC := Check_any e p n c ms _ (hr.below hb0) hn
  unfold chkV at hC
  generalize hw : w.heap.size = b at *
  go_enter Try.func77, Try.ntmps77
  go_wp2_with fail
  have hr0 := hr.below (by rw [hw]; exact hb0)
  generalize ((w.alloc (.cells #[.int .i64 e, .slice p n c] 42)).alloc (.cells #[.int .i64 0, .slice none 0 0] 42)) = w0 at *
  refine hC.mono ?_
  rintro r w1 ⟨rfl, hb1⟩
  have hF1 := hF.below hb1
  have hB1 := hb0.trans (hb1.mono (Nat.le_of_lt (Nat.lt_of_succ_lt hF.lt)))
  cases hk : chk e ms with
  | false =>
    have HR : Hid (cutR pr e ms = .error 80) := by unfold Hid cutR; rw [hk]; rfl
    have e0 := hF1.put0 (.int .i64 0) (.slice none 0 0)
    have e1 := hF1.put1 (.int .i64 0) (.slice none 0 0)
    have hbb := Fr.putB hB1 (.int .i64 0) (.slice none 0 0)
    obtain ⟨a0, a1, b0, b1, f0, f1, lt⟩ := hF1
    clear hC hF hr hr0 hA hb0 hb1 hk
    simp only [Bool.false_eq_true, if_false]
    go_wp2_with fail
    exact bodyPost_ret (results_chain (p := 4) (u := 5) rfl _ _ (b + 1) _ _ rfl e0 e1) rfl ⟨_, rfl, by rw [HR.out]; rfl, hbb⟩
  | true =>
    obtain ⟨he1, he2, hn0, hn6⟩ := chk_parts hk
    have hL := last_any e p n c w1
    have hr1 := hr0.below hb1
    obtain ⟨a0, a1, b0, b1, f0, f1, lt⟩ := hF1
    clear hC hF hb0 hb1 hr0
    simp only [if_true]
    go_wp2_with fail
    refine hL.mono ?_
    rintro r w2 ⟨rfl, hb2⟩
    have hF2 := Fr.below ⟨a0, a1, b0, b1, f0, f1, lt⟩ hb2
    have hB2 := hB1.trans (hb2.mono (Nat.le_of_lt (Nat.lt_of_succ_lt lt)))
    clear a0 a1 b0 b1 f0 f1
    by_cases h40 : 1099511627776 ≤ e
    · have HR : Hid (cutR pr e ms = .error 5) := by unfold Hid cutR; rw [hk, if_neg (by decide), if_pos h40]
      have e0 := hF2.put0 (.int .i64 0) (.slice none 0 0)
      have e1 := hF2.put1 (.int .i64 0) (.slice none 0 0)
      have hbb := Fr.putB hB2 (.int .i64 0) (.slice none 0 0)
      obtain ⟨a0, a1, b0, b1, f0, f1, lt⟩ := hF2
      clear hr hr1 hA hk hB1
      go_wp2_with fail
      exact bodyPost_ret (results_chain (p := 4) (u := 5) rfl _ _ (b + 1) _ _ rfl e0 e1) rfl ⟨_, rfl, by rw [HR.out]; rfl, hbb⟩
    · have HR : Hid (cutR pr e ms = if (ms.filter (fun m => !pr m)).length = ms.length then .error 81 else if ixM (fun m => !m.f) 0 (ms.filter (fun m => !pr m)) < 0 then .error 83 else .ok (e + 1, (ms.filter (fun m => !pr m)).drop (ixM (fun m => !m.f) 0 (ms.filter (fun m => !pr m))).toNat)) := by unfold Hid cutR; rw [hk, if_neg (by decide), if_neg h40]
      have hd40 : decide (1099511627776 ≤ e) = false := decide_eq_false h40
      have hCl := cloneM_any p n c ms w2 (hr1.below hb2) hn
      obtain ⟨a0, a1, b0, b1, f0, f1, lt2⟩ := hF2
      clear hr hr1 hk
      go_wp2_with fail
      refine hCl.mono ?_
      rintro r w3 ⟨v3, rfl, hcp, hb3⟩
      have hF3 := Fr.below ⟨a0, a1, b0, b1, f0, f1, lt2⟩ hb3
      have hB3 := hB2.trans (hb3.mono (Nat.le_of_lt (Nat.lt_of_succ_lt lt2)))
      clear a0 a1 b0 b1 f0 f1 hCl
      rcases hcp with ⟨h0, _⟩ | ⟨h0, ho⟩
      · omega
      · obtain ⟨g, N, rfl, hg, hR3⟩ := Row.of_owns ho hl h0
        have hD := deleteF_any F hcf caps pr w3 w2.heap.size g N ms hR3 hg (by omega) (fun W m hW => hA W m (by rw [hw]; exact hB3.trans (hW.mono (Nat.le_of_lt (Nat.lt_of_succ_lt lt2)))))
        rw [hl] at hD
        have HS : Hid ((ms.filter (fun m => !pr m)).length ≤ ms.length) := List.length_filter_le _ _
        generalize ms.filter (fun m => !pr m) = rest at *
        obtain ⟨a0, a1, b0, b1, f0, f1, lt3⟩ := hF3
        clear hA hR3 ho
        go_wp2_with fail
        refine hD.mono ?_
        rintro r w4 ⟨rfl, hr4, hb4⟩
        have hF4 := Fr.low ⟨a0, a1, b0, b1, f0, f1, lt3⟩ hb4 lt2
        have hB4 := hB3.trans (hb4.mono (Nat.le_of_lt (Nat.lt_of_succ_lt lt2)))
        clear a0 a1 b0 b1 f0 f1 hD
        have hS := HS.out
        have hI := indexF_any _ cfWhole #[] (fun m => !m.f) _ rest.length N rest w4 hr4 (by omega) (asksWhole _)
        have hbd := ixM_bounds (fun m => !m.f) rest 0
        generalize ixM (fun m => !m.f) 0 rest = x at *
        obtain ⟨a0, a1, b0, b1, f0, f1, lt4⟩ := hF4
        go_wp2_with fail
        refine hI.mono ?_
        rintro r w5 ⟨rfl, hb5⟩
        have hF5 := Fr.below ⟨a0, a1, b0, b1, f0, f1, lt4⟩ hb5
        have hB5 := hB4.trans (hb5.mono (Nat.le_of_lt (Nat.lt_of_succ_lt lt4)))
        have hr5 := hr4.below hb5
        have hk5 := hF5
        obtain ⟨a0, a1, b0, b1, f0, f1, lt5⟩ := hF5
        clear hI hr4
        by_cases hq : rest.length = ms.length
        · have HR2 : Hid (cutR pr e ms = .error 81) := by unfold Hid; rw [HR.out, if_pos hq]
          have e0 := hk5.put0 (.int .i64 0) (.slice none 0 0)
          have e1 := hk5.put1 (.int .i64 0) (.slice none 0 0)
          have hbb := Fr.putB hB5 (.int .i64 0) (.slice none 0 0)
          have hqi : ((rest.length : Int) == (n : Int)) = true := by simp; omega
          clear HR
          go_wp2_with fail
          exact bodyPost_ret (results_chain (p := 4) (u := 5) rfl _ _ (b + 1) _ _ rfl e0 e1) rfl ⟨_, rfl, by rw [HR2.out]; rfl, hbb⟩
        · have hqi : ((rest.length : Int) == (n : Int)) = false := by simp; omega
          by_cases hx : x < 0
          · have HR2 : Hid (cutR pr e ms = .error 83) := by unfold Hid; rw [HR.out, if_neg hq, if_pos hx]
            have e0 := hk5.put0 (.int .i64 0) (.slice none 0 0)
            have e1 := hk5.put1 (.int .i64 0) (.slice none 0 0)
            have hbb := Fr.putB hB5 (.int .i64 0) (.slice none 0 0)
            clear HR
            go_wp2_with fail
            exact bodyPost_ret (results_chain (p := 4) (u := 5) rfl _ _ (b + 1) _ _ rfl e0 e1) rfl ⟨_, rfl, by rw [HR2.out]; rfl, hbb⟩
          · obtain ⟨k, rfl⟩ := Int.eq_ofNat_of_zero_le (show 0 ≤ x by omega)
            have hkl : k < rest.length := by omega
            have HR2 : Hid (cutR pr e ms = .ok (e + 1, rest.drop k)) := by unfold Hid; rw [HR.out, if_neg hq, if_neg hx, Int.toNat_natCast]
            obtain ⟨b', o', e', hr6⟩ := hr5.back hkl
            cases e'
            rw [Nat.zero_add] at hr6
            have hkx : decide ((k : Int) < 0) = false := decide_eq_false (by omega)
            have hFo := fun W => follow_any e p n c (some ⟨g, k * 3, none⟩) (rest.length - k) (N - k) W he1 (by omega)
            have hNk : ¬ N = k := by have := hr5.cap; omega
            have hgb : b + 1 < g := Nat.lt_of_lt_of_le lt2 hg
            have hNc := hr5.cap
            clear HR hx hbd hB1 hB2 hB3 hB4
            go_wp2_with fail
            go_region_with (first
              | (go_at_call 81; refine (hFo _).mono ?_; rintro r w6 ⟨rfl, hb6q⟩; have hb6 : Below w5.heap.size w5 w6 := ⟨hb6q.os, hb6q.tape, hb6q.output, hb6q.size, hb6q.block⟩; obtain ⟨a0, a1, b0, b1, f0, f1, lt6⟩ := hk5.below hb6))
            all_goals go_wp2_with fail
            all_goals exact bodyPost_ret (results_chain (p := 4) (u := 5) rfl _ _ (b + 1) _ _ rfl ((hk5.below hb6).put0 _ _) ((hk5.below hb6).put1 _ _)) rfl ⟨_, rfl, by
              rw [HR2.out]
              refine ⟨some ⟨g, k * 3, none⟩, N - k, by rw [List.length_drop]; rfl, (fun a ha _ => by cases ha; show b ≤ g; omega), ?_⟩
              rw [List.length_drop]
              exact (hr6.below hb6).put _ _ (fun a ha _ => by cases ha; show g ≠ b + 1; omega), Fr.putB (hB5.trans (hb6.mono (Nat.le_of_lt (Nat.lt_of_succ_lt lt5)))) _ _⟩

set_option maxRecDepth 20000 in
set_option maxHeartbeats 1000000 in
theorem Drop_any (e : Int) (p : Option Addr) (n c : Nat) (ms : List Mb) (node : Int) (w : World) (hr : RdM w p n c ms) (hn : n ≤ 5864062014805) :
    Calls Try.prog 70 #[.agg #[.int .i64 e, .slice p n c], .int .i64 node] w fun r w' => ∃ v, r = .returned v ∧ Told w.heap.size w' v (cutR (fun m => m.n == node) e ms) ∧ Below w.heap.size w w' := by
  have hF := Fr.new w e p n c
  have hb0 : Below w.heap.size w ((w.alloc (.cells #[.int .i64 e, .slice p n c] 42)).alloc (.cells #[.int .i64 0, .slice none 0 0] 42)) := ((Below.refl _ _).alloc (Nat.le_refl _) _).alloc (by simp) _
  have hr0 := hr.below hb0
  have hI := fun W => is_any node W
  generalize hR : cutR (fun m => m.n == node) e ms = R
  have HR : Hid (cutR (fun m => m.n == node) e ms = R) := hR
  clear hR
  generalize hw : w.heap.size = b at *
  go_enter Try.func70, Try.ntmps70
  go_wp2_with fail
  generalize ((w.alloc (.cells #[.int .i64 e, .slice p n c] 42)).alloc (.cells #[.int .i64 0, .slice none 0 0] 42)) = w0 at *
  have hk := hF
  obtain ⟨a0, a1, b0, b1, f0, f1, lt⟩ := hF
  cases R with
  | error k =>
    go_region_with (first
      | (go_at_call 49; refine (hI _).mono ?_; rintro r w2 ⟨rfl, hi, hb2q⟩; have hb2 : Below w0.heap.size w0 w2 := ⟨hb2q.os, hb2q.tape, hb2q.output, hb2q.size, hb2q.block⟩; have hr3 := hr0.below hb2; have hA := asksIs _ _ _ hi; obtain ⟨a0, a1, b0, b1, f0, f1, lt2⟩ := hk.below hb2)
      | (go_at_call 77; refine (without_any _ cfIs _ _ e p n c ms _ hr3 hn hA).mono ?_; rintro r w3 ⟨v3, rfl, ht, hb3q⟩; have hb3 : Below w2.heap.size w2 w3 := ⟨hb3q.os, hb3q.tape, hb3q.output, hb3q.size, hb3q.block⟩; obtain ⟨a0, a1, b0, b1, f0, f1, lt3⟩ := (hk.below hb2).below hb3; rw [HR.out] at ht; obtain rfl := ht))
    all_goals go_wp2_with fail
    all_goals exact bodyPost_ret (results_chain (p := 4) (u := 5) rfl _ _ (b + 1) _ _ rfl (((hk.below hb2).below hb3).put0 _ _) (((hk.below hb2).below hb3).put1 _ _)) rfl ⟨_, rfl, rfl, Fr.putB (hb0.trans ((hb2.trans (hb3.mono hb2.size)).mono (Nat.le_of_lt (Nat.lt_of_succ_lt lt)))) _ _⟩
  | ok em =>
    obtain ⟨e2, ms2⟩ := em
    go_region_with (first
      | (go_at_call 49; refine (hI _).mono ?_; rintro r w2 ⟨rfl, hi, hb2q⟩; have hb2 : Below w0.heap.size w0 w2 := ⟨hb2q.os, hb2q.tape, hb2q.output, hb2q.size, hb2q.block⟩; have hr3 := hr0.below hb2; have hA := asksIs _ _ _ hi; obtain ⟨a0, a1, b0, b1, f0, f1, lt2⟩ := hk.below hb2)
      | (go_at_call 77; refine (without_any _ cfIs _ _ e p n c ms _ hr3 hn hA).mono ?_; rintro r w3 ⟨v3, rfl, ht, hb3q⟩; have hb3 : Below w2.heap.size w2 w3 := ⟨hb3q.os, hb3q.tape, hb3q.output, hb3q.size, hb3q.block⟩; obtain ⟨a0, a1, b0, b1, f0, f1, lt3⟩ := (hk.below hb2).below hb3; rw [HR.out] at ht; obtain ⟨q3, c3, rfl, hq3, hr4⟩ := ht))
    all_goals go_wp2_with fail
    all_goals exact bodyPost_ret (results_chain (p := 4) (u := 5) rfl _ _ (b + 1) _ _ rfl (((hk.below hb2).below hb3).put0 _ _) (((hk.below hb2).below hb3).put1 _ _)) rfl ⟨_, rfl, ⟨q3, c3, rfl, (fun a ha h0 => Nat.le_trans (by omega) (hq3 a ha h0)), hr4.put _ _ (fun a ha h0 => by have : w2.heap.size ≤ a.block := hq3 a ha h0; omega)⟩, Fr.putB (hb0.trans ((hb2.trans (hb3.mono hb2.size)).mono (Nat.le_of_lt (Nat.lt_of_succ_lt lt)))) _ _⟩

end Go.Proofs.Ytcnkpgbmegppbaa.M
