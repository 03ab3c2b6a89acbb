/-
  Own text: calls to a register as plain data, and slices of them that can be read; contracts of lin's small questions, and of Right.
-/
import Derived.Test.YtmfmjoibofadlaaYBase
import Derived.Deep.QuietTactic
import Derived.BigQuiet
import Derived.WalkSmall
import Derived.WalkSpells
import Derived.Lib.Bytes
import Derived.Lib.QuietBelow
namespace Go.Proofs.Ytmfmjoibofadlaa.M
open Go.ChangeShapes Go.WideShapes Go.ChangeAt Go.RowKit
set_option linter.unusedSimpArgs false

theorem below_alloc (w : World) (o : Obj) : Below w.heap.size w (w.alloc o) := (Below.refl _ _).alloc (Nat.le_refl _) o

/-- A call: whether it is a write, its value, its version, when it began and ended. -/
structure Lo where
  w : Bool
  s : ByteArray
  v : Int
  b : Int
  e : Int

def Lo.z0 : Lo := ⟨false, ⟨#[]⟩, 0, 0, 0⟩

/-- A slice of calls that can be read. -/
structure RdO (w : World) (p : Option Addr) (n c : Nat) (fs : List Lo) : Prop where
  len : fs.length = n
  cap : n ≤ c
  nil : p = none → c = 0
  cells : 0 < n → ∃ b o, p = some ⟨b, o, none⟩ ∧ ∀ i, i < n → w.cell? ⟨b, o + i * 5, none⟩ = some (.bool (fs.getD i .z0).w) ∧ w.cell? ⟨b, o + i * 5 + 1, none⟩ = some (.string (fs.getD i .z0).s) ∧ w.cell? ⟨b, o + i * 5 + 2, none⟩ = some (.int .i64 (fs.getD i .z0).v) ∧ w.cell? ⟨b, o + i * 5 + 3, none⟩ = some (.int .i64 (fs.getD i .z0).b) ∧ w.cell? ⟨b, o + i * 5 + 4, none⟩ = some (.int .i64 (fs.getD i .z0).e)

theorem RdO.below {w w' : World} {p : Option Addr} {n c : Nat} {fs : List Lo} (h : RdO w p n c fs) (hb : Below w.heap.size w w') : RdO w' p n c fs := by
  refine ⟨h.len, h.cap, h.nil, fun hn => ?_⟩
  obtain ⟨b, o, hp, hc⟩ := h.cells hn
  refine ⟨b, o, hp, fun i hi => ?_⟩
  obtain ⟨h0, h1, h2, h3, h4⟩ := hc i hi
  have hlt := World.block_lt_of_cell? _ _ h0
  exact ⟨by rw [hb.cell (p := ⟨b, o + i * 5, none⟩) hlt]; exact h0, by rw [hb.cell (p := ⟨b, o + i * 5 + 1, none⟩) hlt]; exact h1, by rw [hb.cell (p := ⟨b, o + i * 5 + 2, none⟩) hlt]; exact h2, by rw [hb.cell (p := ⟨b, o + i * 5 + 3, none⟩) hlt]; exact h3, by rw [hb.cell (p := ⟨b, o + i * 5 + 4, none⟩) hlt]; exact h4⟩

theorem drop_lo {fs : List Lo} {k : Nat} (h : k < fs.length) : fs.drop k = fs.getD k .z0 :: fs.drop (k + 1) := by
  rw [List.drop_eq_getElem_cons h, List.getD_eq_getElem?_getD, List.getElem?_eq_getElem h]
  rfl

/-- Whether a call ended. -/
def Lo.ans (o : Lo) : Bool := o.e != 0

set_option maxRecDepth 20000 in
theorem answered_any (o : Lo) (w : World) : Calls Try.prog 34 #[.agg #[.bool o.w, .string o.s, .int .i64 o.v, .int .i64 o.b, .int .i64 o.e]] w fun e w' => e = .returned (.bool o.ans) ∧ Below w.heap.size w w' := by
  obtain ⟨ow, os, ov, ob, oe⟩ := o
  unfold Lo.ans
  dsimp only
  go_enter Try.func34, Try.ntmps34
  go_wp2
  go_ret
  exact ⟨rfl, below_alloc _ _⟩

/-- Whether there is no such call. -/
def Lo.no (o : Lo) : Bool := decide (o.b < 1) || (o.e != 0 && decide (o.e ≤ o.b)) || decide (o.v < 0) || decide (1099511627776 < o.v) || decide (24 < o.s.size)

theorem cf_of {F : FuncId} {fn : Func} (h : Try.prog.funcs[F]? = some fn) (h1 : (fn.name == "runtime.NumGoroutine") = false) (h2 : fn.body.isNone = false) (args : Array Value) (w : World) : (callFunc F args).run Try.prog w = .ok (.enter F args) w := by
  have h3 : ¬ fn.name = "runtime.NumGoroutine" := fun e => by rw [e] at h1; simp at h1
  have h4 : ¬ fn.body = none := fun e => by rw [e] at h2; cases h2
  unfold callFunc
  simp [Sem.run_bind, h, h3, h4]

/-- A function that may be called by its value. -/
def Cf (F : FuncId) : Prop := ∀ (args : Array Value) (w : World), (callFunc F args).run Try.prog w = .ok (.enter F args) w

/-- A function that asks a member, in every world in which all that lay in w lies as it did; it lays memory of its own alone. -/
def Asks (F : FuncId) (caps : Array Value) (w : World) (pr : Lo → Bool) : Prop :=
  ∀ (W : World) (m : Lo), Below w.heap.size w W → Calls Try.prog F (#[.agg #[.bool m.w, .string m.s, .int .i64 m.v, .int .i64 m.b, .int .i64 m.e]] ++ caps) W fun e w' => e = .returned (.bool (pr m)) ∧ Below W.heap.size W w'

theorem Asks.later {F : FuncId} {caps : Array Value} {w w' : World} {pr : Lo → Bool} (h : Asks F caps w pr) (hb : Below w.heap.size w w') : Asks F caps w' pr :=
  fun W m hW => h W m (hb.trans (hW.mono hb.size))

/-- The first place of which something is so, from k on; -1: none. -/
def ixM (pr : Lo → Bool) : Nat → List Lo → Int
  | _, [] => -1
  | k, m :: l => if pr m = true then (k : Int) else ixM pr (k + 1) l

set_option maxRecDepth 20000 in
set_option maxHeartbeats 1000000 in
theorem indexF_any (F : FuncId) (hcf : Cf F) (caps : Array Value) (pr : Lo → Bool) (p : Option Addr) (n c : Nat) (fs : List Lo) (w : World) (hr : RdO w p n c fs) (hn : n ≤ 1099511627776) (hA : Asks F caps w pr) :
    Calls Try.prog 42 #[.slice p n c, .func (.func F) #[] caps] w fun e w' => e = .returned (.int .i64 (ixM pr 0 fs)) ∧ Below w.heap.size w w' := by
  have hl := hr.len
  have hcf' : ∀ (args : Array Value) (w : World), (callFunc F args).run Try.prog w = .ok (.enter F args) w := hcf
  clear hcf
  go_enter Try.func42, Try.ntmps42
  go_wp2_with fail
  go_loopw [8] (fun i wr => ∃ k : Nat, k ≤ n ∧ i = .int .i64 k ∧ Hid (ixM pr 0 fs = ixM pr k (fs.drop k)) ∧ Below w.heap.size w wr) (fun i _ => n - (intOf i).toNat)
  case atStart => exact ⟨0, Nat.zero_le _, rfl, rfl, Below.refl _ _⟩
  case round =>
    obtain ⟨k, hk, rfl, HG, hb⟩ := hrel
    by_cases h : k < n
    · obtain ⟨b, o, rfl, hc⟩ := (hr.below hb).cells (by omega)
      obtain ⟨x1, x2, x3, x4, x5⟩ := hc k h
      have hk1 : (k : Int) < (n : Int) := by omega
      have hd := drop_lo (fs := fs) (k := k) (by omega)
      have hG2 := HG.out
      rw [hd] at hG2
      clear HG hd hc hr
      have hA2 := hA wr (fs.getD k .z0) hb
      generalize fs.getD k .z0 = m at *
      obtain ⟨mw, mz, mv, mb, me⟩ := m
      dsimp only at x1 x2 x3 x4 x5 hA2
      have HG3 : Hid (ixM pr 0 fs = if pr ⟨mw, mz, mv, mb, me⟩ = true then (k : Int) else ixM pr (k + 1) (fs.drop (k + 1))) := hG2
      clear hG2
      generalize pr ⟨mw, mz, mv, mb, me⟩ = b1 at *
      go_wp2_with fail
      refine hA2.mono ?_
      rintro r w1 ⟨rfl, hb1⟩
      have hbb := hb.trans (hb1.mono hb.size)
      cases b1 with
      | true =>
        have HN : Hid (ixM pr 0 fs = (k : Int)) := by unfold Hid; rw [HG3.out]; rfl
        clear hA hA2 HG3
        go_wp2_with fail
        go_ret
        exact ⟨ret_int HN.out.symm, hbb⟩
      | false =>
        have HN : Hid (ixM pr 0 fs = ixM pr (k + 1) (fs.drop (k + 1))) := by unfold Hid; rw [HG3.out]; rfl
        clear hA2 HG3
        go_wp2_with fail
        go_roundw
        case rel => exact ⟨k + 1, by omega, by go_num, HN, hbb⟩
        case measure => simp [intOf]; omega
    · obtain rfl : k = n := by omega
      have HN : Hid (ixM pr 0 fs = -1) := by
        unfold Hid; rw [HG.out, List.drop_of_length_le (by omega)]; rfl
      clear hr HG hA
      go_wp2_with fail
      go_ret
      exact ⟨ret_int HN.out.symm, hb⟩

theorem ixM_any (pr : Lo → Bool) : ∀ (l : List Lo) (k : Nat), decide (0 ≤ ixM pr k l) = l.any pr
  | [], k => rfl
  | m :: l, k => by
    unfold ixM
    rw [List.any_cons]
    by_cases h : pr m = true
    · rw [if_pos h, h]
      simp
    · rw [if_neg h, ixM_any pr l (k + 1), show pr m = false by simpa using h, Bool.false_or]

set_option maxRecDepth 20000 in
set_option maxHeartbeats 1000000 in
theorem contains_any (F : FuncId) (hcf : Cf F) (caps : Array Value) (pr : Lo → Bool) (p : Option Addr) (n c : Nat) (fs : List Lo) (w : World) (hr : RdO w p n c fs) (hn : n ≤ 1099511627776) (hA : Asks F caps w pr) :
    Calls Try.prog 21 #[.slice p n c, .func (.func F) #[] caps] w fun e w' => e = .returned (.bool (fs.any pr)) ∧ Below w.heap.size w w' := by
  have hI := indexF_any F hcf caps pr p n c fs w hr hn hA
  have HX : Hid (decide (0 ≤ ixM pr 0 fs) = fs.any pr) := ixM_any pr fs 0
  generalize ixM pr 0 fs = z at hI HX
  generalize fs.any pr = r at HX ⊢
  clear hr hA hcf
  go_enter Try.func21, Try.ntmps21
  go_wp2_with fail
  refine hI.mono ?_
  rintro e w1 ⟨rfl, hb⟩
  clear hI
  go_wp2_with fail
  go_ret
  exact ⟨ret_bool HX.out, hb⟩

theorem no_cf : Cf 22 := cf_of Try.func22 (by kernel_rfl) (by kernel_rfl)

/-- A call in a box. -/
def Bx (w : World) (g : Nat) (o : Lo) : Prop := w.cell? ⟨g, 0, none⟩ = some (.bool o.w) ∧ w.cell? ⟨g, 1, none⟩ = some (.string o.s) ∧ w.cell? ⟨g, 2, none⟩ = some (.int .i64 o.v) ∧ w.cell? ⟨g, 3, none⟩ = some (.int .i64 o.b) ∧ w.cell? ⟨g, 4, none⟩ = some (.int .i64 o.e)

theorem Bx.new (w : World) (o : Lo) (t : TypeId) : Bx (w.alloc (.cells #[.bool o.w, .string o.s, .int .i64 o.v, .int .i64 o.b, .int .i64 o.e] t)) w.heap.size o := by
  refine ⟨?_, ?_, ?_, ?_, ?_⟩ <;> simp

theorem Bx.below {w w' : World} {g : Nat} {o : Lo} (h : Bx w g o) (hb : Below w.heap.size w w') : Bx w' g o := by
  obtain ⟨h0, h1, h2, h3, h4⟩ := h
  have hlt := World.block_lt_of_cell? _ _ h0
  exact ⟨by rw [hb.cell (p := ⟨g, 0, none⟩) hlt]; exact h0, by rw [hb.cell (p := ⟨g, 1, none⟩) hlt]; exact h1, by rw [hb.cell (p := ⟨g, 2, none⟩) hlt]; exact h2, by rw [hb.cell (p := ⟨g, 3, none⟩) hlt]; exact h3, by rw [hb.cell (p := ⟨g, 4, none⟩) hlt]; exact h4⟩

set_option maxRecDepth 20000 in
set_option maxHeartbeats 1000000 in
theorem cannot_any (o : Lo) (w : World) : Calls Try.prog 22 #[.agg #[.bool o.w, .string o.s, .int .i64 o.v, .int .i64 o.b, .int .i64 o.e]] w fun e w' => e = .returned (.bool o.no) ∧ Below w.heap.size w w' := by
  have hA := fun W => answered_any o W
  have hN := Bx.new w o 29
  obtain ⟨ow, os, ov, ob, oe⟩ := o
  unfold Lo.no
  unfold Lo.ans at hA
  dsimp only at hA hN ⊢
  have hb0 := below_alloc w (.cells #[.bool ow, .string os, .int .i64 ov, .int .i64 ob, .int .i64 oe] 29)
  by_cases h1 : ob < 1
  · rw [decide_eq_true h1]
    clear hA hN
    go_enter Try.func22, Try.ntmps22
    go_wp2_with fail
    go_ret
    exact ⟨rfl, hb0⟩
  · rw [decide_eq_false h1]
    generalize (oe != 0) = z at hA ⊢
    go_enter Try.func22, Try.ntmps22
    go_wp2_with fail
    refine (hA _).mono ?_
    rintro e w1 ⟨rfl, hb1⟩
    obtain ⟨y0, y1, y2, y3, y4⟩ := hN.below hb1
    have hbb := hb0.trans (hb1.mono hb0.size)
    clear hA hN hb0 hb1
    dsimp only at y0 y1 y2 y3 y4
    cases z with
    | true =>
      by_cases h2 : oe ≤ ob
      · go_wp2_with fail
        go_ret
        exact ⟨ret_bool (by first | (simp [*]; done) | (simp [*]; omega)), hbb⟩
      · by_cases h3 : ov < 0
        · go_wp2_with fail
          go_ret
          exact ⟨ret_bool (by first | (simp [*]; done) | (simp [*]; omega)), hbb⟩
        · by_cases h4 : 1099511627776 < ov
          · go_wp2_with fail
            go_ret
            exact ⟨ret_bool (by first | (simp [*]; done) | (simp [*]; omega)), hbb⟩
          · by_cases h5 : 24 < os.size
            · have h6 : (24 : Int) < (os.size : Int) := by omega
              go_wp2_with fail
              go_ret
              exact ⟨ret_bool (by first | (simp [*]; done) | (simp [*]; omega)), hbb⟩
            · have h6 : ¬ (24 : Int) < (os.size : Int) := by omega
              go_wp2_with fail
              go_ret
              exact ⟨ret_bool (by first | (simp [*]; done) | (simp [*]; omega)), hbb⟩
    | false =>
      by_cases h3 : ov < 0
      · go_wp2_with fail
        go_ret
        exact ⟨ret_bool (by first | (simp [*]; done) | (simp [*]; omega)), hbb⟩
      · by_cases h4 : 1099511627776 < ov
        · go_wp2_with fail
          go_ret
          exact ⟨ret_bool (by first | (simp [*]; done) | (simp [*]; omega)), hbb⟩
        · by_cases h5 : 24 < os.size
          · have h6 : (24 : Int) < (os.size : Int) := by omega
            go_wp2_with fail
            go_ret
            exact ⟨ret_bool (by first | (simp [*]; done) | (simp [*]; omega)), hbb⟩
          · have h6 : ¬ (24 : Int) < (os.size : Int) := by omega
            go_wp2_with fail
            go_ret
            exact ⟨ret_bool (by first | (simp [*]; done) | (simp [*]; omega)), hbb⟩

/-- What Right tells. -/
def rightO (L : List Lo) : Int := if 24 < L.length then 4 else if L.any Lo.no = true then 70 else 0

set_option maxRecDepth 20000 in
set_option maxHeartbeats 1000000 in
theorem right_any (p : Option Addr) (n c : Nat) (L : List Lo) (w : World) (hr : RdO w p n c L) :
    Calls Try.prog 9 #[.slice p n c] w fun e w' => e = .returned (.int .i64 (rightO L)) ∧ Below w.heap.size w w' := by
  have hl := hr.len
  by_cases h24 : 24 < n
  · have HR : Hid (rightO L = 4) := by unfold Hid rightO; rw [if_pos (by omega)]
    have hi : (24 : Int) < (n : Int) := by omega
    clear hr hl
    go_enter Try.func9, Try.ntmps9
    go_wp2_with fail
    go_ret
    exact ⟨ret_int HR.out.symm, Below.refl _ _⟩
  · have HR : Hid (rightO L = if L.any Lo.no = true then 70 else 0) := by unfold Hid rightO; rw [if_neg (by omega)]
    have hi : ¬ (24 : Int) < (n : Int) := by omega
    have hC := contains_any 22 no_cf #[] Lo.no p n c L w hr (by omega) (fun W m _ => cannot_any m W)
    generalize L.any Lo.no = z at hC HR
    clear hr hl
    go_enter Try.func9, Try.ntmps9
    go_wp2_with fail
    refine hC.mono ?_
    rintro e w1 ⟨rfl, hb1⟩
    clear hC
    cases z with
    | true =>
      go_wp2_with fail
      go_ret
      exact ⟨ret_int HR.out.symm, hb1⟩
    | false =>
      go_wp2_with fail
      go_ret
      exact ⟨ret_int HR.out.symm, hb1⟩

end Go.Proofs.Ytmfmjoibofadlaa.M
