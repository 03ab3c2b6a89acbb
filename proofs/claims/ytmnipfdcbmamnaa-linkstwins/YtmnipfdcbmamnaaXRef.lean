/-
  Own text: the document's Net in plain words, and its calls that only look: Len, place, Peek, right.
-/
import Derived.Test.YtmnipfdcbmamnaaNTwo
namespace Go.Proofs.Ytmnipfdcbmamnaa.M
open Go.ChangeShapes Go.WideShapes Go.ChangeAt Go.RowKit Go.ChangeMaps Go.MapKept Go.Maps

/-- A message on its way: its link and its bytes. -/
abbrev It := Int × Int × ByteArray

/-- Is it on this link? -/
def onL (x y : Int) (t : It) : Bool := decide (t.1 = x ∧ t.2.1 = y)

/-- A link's messages. -/
def itN (its : List It) (x y : Int) : List ByteArray := (its.filter (onL x y)).map fun t => t.2.2

theorem itN_app (a b : List It) (x y : Int) : itN (a ++ b) x y = itN a x y ++ itN b x y := by unfold itN; rw [List.filter_append, List.map_append]

theorem itN_yes {t : It} {x y : Int} (h : onL x y t = true) : itN [t] x y = [t.2.2] := by unfold itN; simp [h]
theorem itN_no {t : It} {x y : Int} (h : onL x y t = false) : itN [t] x y = [] := by unfold itN; simp [h]

theorem itN_cons (t : It) (l : List It) (x y : Int) : itN (t :: l) x y = if onL x y t = true then t.2.2 :: itN l x y else itN l x y := by
  unfold itN
  by_cases h : onL x y t = true
  · simp [h]
  · simp [h]

theorem onL_iff {t : It} {x y : Int} : onL x y t = true ↔ t.1 = x ∧ t.2.1 = y := by unfold onL; exact decide_eq_true_iff

theorem onL_other {t : It} {x y x' y' : Int} (h : onL x y t = true) (hne : ¬ (x' = x ∧ y' = y)) : onL x' y' t = false := by
  cases h2 : onL x' y' t with
  | false => rfl
  | true =>
    obtain ⟨a, b⟩ := onL_iff.1 h
    obtain ⟨c, d⟩ := onL_iff.1 h2
    exact absurd ⟨c.symm.trans a, d.symm.trans b⟩ hne

/-- Where a link's i-th message stands, from a place on. -/
def plR (x y : Int) : List It → Int → Nat → Option Nat
  | [], _, _ => none
  | t :: l, i, at_ => if onL x y t = true then (if i = 0 then some at_ else plR x y l (i - 1) (at_ + 1)) else plR x y l i (at_ + 1)

theorem plR_none (x y : Int) : ∀ (l : List It) (i : Int) (at_ : Nat), plR x y l i at_ = none → ¬ (0 ≤ i ∧ i < (itN l x y).length)
  | [], i, _, _ => fun h => by have : i < ((0 : Nat) : Int) := h.2; omega
  | t :: l, i, at_, h => by
    unfold plR at h
    rw [itN_cons]
    by_cases ht : onL x y t = true
    · rw [if_pos ht] at h ⊢
      by_cases hi : i = 0
      · rw [if_pos hi] at h; cases h
      · rw [if_neg hi] at h
        have := plR_none x y l (i - 1) (at_ + 1) h
        rw [List.length_cons]
        omega
    · rw [if_neg ht] at h ⊢
      exact plR_none x y l i (at_ + 1) h

theorem plR_some (x y : Int) : ∀ (l : List It) (i : Int) (at_ a : Nat), plR x y l i at_ = some a → (at_ ≤ a ∧ a < at_ + l.length) ∧ (0 ≤ i ∧ i < (itN l x y).length) ∧ onL x y (l.getD (a - at_) (0, 0, ByteArray.empty)) = true ∧ (l.getD (a - at_) (0, 0, ByteArray.empty)).2.2 = (itN l x y).getD i.toNat ByteArray.empty ∧ itN (l.eraseIdx (a - at_)) x y = (itN l x y).eraseIdx i.toNat ∧ ∀ x' y', ¬ (x' = x ∧ y' = y) → itN (l.eraseIdx (a - at_)) x' y' = itN l x' y'
  | [], _, _, _, h => by cases h
  | t :: l, i, at_, a, h => by
    unfold plR at h
    by_cases ht : onL x y t = true
    · rw [if_pos ht] at h
      by_cases hi : i = 0
      · rw [if_pos hi] at h
        cases h
        subst hi
        rw [Nat.sub_self, itN_cons, if_pos ht]
        refine ⟨⟨Nat.le_refl _, by rw [List.length_cons]; omega⟩, ⟨Int.le_refl _, by rw [List.length_cons]; omega⟩, ht, rfl, rfl, fun x' y' hne => ?_⟩
        rw [itN_cons, if_neg (by rw [onL_other ht hne]; exact Bool.false_ne_true)]
        rfl
      · rw [if_neg hi] at h
        obtain ⟨⟨h1, h2⟩, ⟨h3, h4⟩, h5, h6, h7, h8⟩ := plR_some x y l (i - 1) (at_ + 1) a h
        have e : a - at_ = (a - (at_ + 1)) + 1 := by omega
        have e2 : i.toNat = (i - 1).toNat + 1 := by omega
        rw [e, e2, itN_cons, if_pos ht]
        refine ⟨⟨by omega, by rw [List.length_cons]; omega⟩, ⟨by omega, by rw [List.length_cons]; omega⟩, h5, h6, ?_, fun x' y' hne => ?_⟩
        · rw [List.eraseIdx_cons_succ, List.eraseIdx_cons_succ, itN_cons, if_pos ht, h7]
        · rw [List.eraseIdx_cons_succ, itN_cons, itN_cons, h8 x' y' hne]
    · rw [if_neg ht] at h
      obtain ⟨⟨h1, h2⟩, ⟨h3, h4⟩, h5, h6, h7, h8⟩ := plR_some x y l i (at_ + 1) a h
      have e : a - at_ = (a - (at_ + 1)) + 1 := by omega
      rw [e, itN_cons, if_neg ht]
      refine ⟨⟨by omega, by rw [List.length_cons]; omega⟩, ⟨h3, h4⟩, h5, h6, ?_, fun x' y' hne => ?_⟩
      · rw [List.eraseIdx_cons_succ, itN_cons, if_neg ht, h7]
      · rw [List.eraseIdx_cons_succ, itN_cons, itN_cons, h8 x' y' hne]

/-- Messages that can be read. -/
structure RdI (w : World) (p : Option Addr) (n c : Nat) (its : List It) : Prop where
  len : its.length = n
  cap : n ≤ c
  nil : p = none → c = 0
  cells : 0 < n → ∃ b o, p = some ⟨b, o, none⟩ ∧ ∀ i, i < n → w.cell? ⟨b, o + i * 3, none⟩ = some (.int .i64 (its.getD i (0, 0, ByteArray.empty)).1) ∧ w.cell? ⟨b, o + i * 3 + 1, none⟩ = some (.int .i64 (its.getD i (0, 0, ByteArray.empty)).2.1) ∧ w.cell? ⟨b, o + i * 3 + 2, none⟩ = some (.string (its.getD i (0, 0, ByteArray.empty)).2.2)
  row : ∀ a, p = some a → 0 < n → ∃ cs f, w.heap[a.block]? = some (.cells cs 77 f)

theorem RdI.below {w w' : World} {p : Option Addr} {n c : Nat} {its : List It} (h : RdI w p n c its) (hb : Below w.heap.size w w') : RdI w' p n c its :=
  ⟨h.len, h.cap, h.nil, fun hn => by
    obtain ⟨b, o, e, hc⟩ := h.cells hn
    refine ⟨b, o, e, fun i hi => ?_⟩
    obtain ⟨k0, k1, k2⟩ := hc i hi
    exact ⟨cell_below hb k0, cell_below hb k1, cell_below hb k2⟩, fun a e h0 => by
    obtain ⟨cs, f, h1⟩ := h.row a e h0
    exact ⟨cs, f, (hb.block a.block (Array.getElem?_eq_some_iff.1 h1).1).trans h1⟩⟩

theorem take_snocI {l : List It} {k : Nat} (h : k < l.length) : l.take (k + 1) = l.take k ++ [l.getD k (0, 0, ByteArray.empty)] := by
  rw [List.take_add_one, List.getElem?_eq_getElem h, List.getD_eq_getElem?_getD, List.getElem?_eq_getElem h]
  rfl

theorem drop_consI {l : List It} {k : Nat} (h : k < l.length) : l.drop k = l.getD k (0, 0, ByteArray.empty) :: l.drop (k + 1) := by
  rw [List.drop_eq_getElem_cons h, List.getD_eq_getElem?_getD, List.getElem?_eq_getElem h]
  rfl

theorem neqLk (a b c d : Int) (w : World) : (binOp .neq 33 (.agg #[.int .i64 a, .int .i64 b]) (.agg #[.int .i64 c, .int .i64 d])).run Try.prog w = .ok (.bool (!decide (a = c ∧ b = d))) w := by
  have u3 := Try.underlying3
  have a3 := Try.isAgg3
  have z3 := Try.sizeOf3
  have hS : Try.prog.underlying 33 = some (.struct (Try.prog.fieldsOf 33)) := by kernel_rfl
  have hp : Try.prog.stoodInHeld 33 = false := by kernel_rfl
  rw [run_neq_struct, show (10000 : Nat) = 9999 + 1 from rfl, run_equalIn_agg w 9999 33 _ _ hS hp]
  simp only [Program.fieldsOf, Try.underlying33]
  go_simp
  by_cases h1 : a = c
  · by_cases h2 : b = d
    · simp [h1, h2]
    · simp [h1, h2]
  · simp [h1]

set_option maxRecDepth 20000 in
set_option maxHeartbeats 2000000 in
theorem rLen_any (w : World) (gx : Nat) (p : Option Addr) (n c : Nat) (its : List It) (h0 : w.cell? ⟨gx, 0, none⟩ = some (.slice p n c)) (hr : RdI w p n c its) (hn : n ≤ 1000000) (x y : Int) :
    Calls Try.prog 14 #[.pointer (some ⟨gx, 0, none⟩), .agg #[.int .i64 x, .int .i64 y]] w fun o w' => o = .returned (.int .i64 (itN its x y).length) ∧ Below w.heap.size w w' := by
  have hba := below_alloc w (.cells #[.int .i64 x, .int .i64 y] 33)
  have hA := At.new 33 w #[.int .i64 x, .int .i64 y]
  have h1 := cell_below hba h0
  have hr1 := hr.below hba
  have hl := hr.len
  clear h0 hr
  go_enter Try.func14, Try.ntmps14
  go_wp2_with fail
  generalize (w.alloc (.cells #[.int .i64 x, .int .i64 y] 33)) = w1 at *
  generalize hgl : w.heap.size = gl at *
  clear h1
  go_loopw [5, 13] (fun v i wr => ∃ k : Nat, k ≤ n ∧ i = .int .i64 k ∧ v = .int .i64 (itN (its.take k) x y).length ∧ Below w1.heap.size w1 wr) (fun _ i _ => n - (intOf i).toNat)
  case atStart => exact ⟨0, Nat.zero_le _, rfl, rfl, Below.refl _ _⟩
  case round =>
    obtain ⟨k, hk, rfl, rfl, hb⟩ := hrel
    have hkl : (itN (its.take k) x y).length ≤ k := by
      unfold itN
      rw [List.length_map]
      exact Nat.le_trans (List.length_filter_le _ _) (by rw [List.length_take]; omega)
    by_cases h : k < n
    · have hki : (k : Int) < (n : Int) := by omega
      obtain ⟨gb, go, rfl, hc⟩ := (hr1.below hb).cells (by omega)
      obtain ⟨c0, c1, c2⟩ := hc k h
      have hsn := congrArg (fun l => (itN l x y).length) (take_snocI (l := its) (k := k) (by omega))
      rw [itN_app, List.length_append] at hsn
      have HSN : Hid ((itN (its.take (k + 1)) x y).length = (itN (its.take k) x y).length + (itN [its.getD k (0, 0, ByteArray.empty)] x y).length) := hsn
      have hon := onL_iff (t := its.getD k (0, 0, ByteArray.empty)) (x := x) (y := y)
      have hyes := itN_yes (t := its.getD k (0, 0, ByteArray.empty)) (x := x) (y := y)
      have hno := itN_no (t := its.getD k (0, 0, ByteArray.empty)) (x := x) (y := y)
      generalize its.getD k (0, 0, ByteArray.empty) = t at *
      obtain ⟨t1, t2, tb⟩ := t
      dsimp only at c0 c1 c2 hon
      have hbx := below_alloc wr (.cells #[.int .i64 t1, .int .i64 t2, .string tb] 77)
      have hX := At.new 77 wr #[.int .i64 t1, .int .i64 t2, .string tb]
      have hb2 := hb.trans (hbx.mono hb.size)
      have hE := eqlLk t1 t2 x y
      obtain ⟨z0, z1, z2⟩ := hX.three
      obtain ⟨a0, a1⟩ := (hA.below hb2).two
      obtain ⟨K, HK⟩ : ∃ z, Hid ((itN (its.take k) x y).length = z) := ⟨_, rfl⟩
      rw [HK.out] at HSN hkl ⊢
      clear hc hsn
      by_cases hsame : t1 = x ∧ t2 = y
      · have hE2 : ∀ w, (binOp .eql 33 (.agg #[.int .i64 t1, .int .i64 t2]) (.agg #[.int .i64 x, .int .i64 y])).run Try.prog w = .ok (.bool true) w := fun w => by rw [hE w, decide_eq_true hsame]
        have HF : Hid ((itN (its.take (k + 1)) x y).length = K + 1) := by show _ = _; rw [HSN.out, hyes (hon.2 hsame)]; rfl
        clear hE hsame hyes hno hon HSN HK
        go_wp2_with fail
        go_roundw
        case rel => exact ⟨k + 1, by omega, by go_num, by rw [HF.out]; go_num, hb2⟩
        case measure => simp [intOf]; omega
      · have hE2 : ∀ w, (binOp .eql 33 (.agg #[.int .i64 t1, .int .i64 t2]) (.agg #[.int .i64 x, .int .i64 y])).run Try.prog w = .ok (.bool false) w := fun w => by rw [hE w, decide_eq_false hsame]
        have HF : Hid ((itN (its.take (k + 1)) x y).length = K) := by
          show _ = _
          rw [HSN.out, hno (by cases hq : onL x y (t1, t2, tb) with | false => rfl | true => exact absurd (hon.1 hq) hsame)]
          rfl
        clear hE hsame hyes hno hon HSN HK
        go_wp2_with fail
        go_roundw
        case rel => exact ⟨k + 1, by omega, by go_num, by rw [HF.out], hb2⟩
        case measure => simp [intOf]; omega
    · have hki : ¬ (k : Int) < (n : Int) := by omega
      have e : its.take k = its := List.take_of_length_le (by omega)
      rw [e]
      have hbz : Below gl w wr := hba.trans (hb.mono (by have := hba.size; omega))
      go_wp2_with fail
      go_ret
      exact ⟨rfl, by first | exact hbz | (rw [hgl]; exact hbz)⟩

/-- What place tells. -/
def oV : Option Nat → Int
  | some a => (a : Int)
  | none => -1

def plV (x y : Int) (its : List It) (i : Int) : Int := oV (plR x y its i 0)

set_option maxRecDepth 20000 in
set_option maxHeartbeats 2000000 in
theorem rplace_any (w : World) (gx : Nat) (p : Option Addr) (n c : Nat) (its : List It) (h0 : w.cell? ⟨gx, 0, none⟩ = some (.slice p n c)) (hr : RdI w p n c its) (hn : n ≤ 1000000) (x y i : Int) :
    Calls Try.prog 39 #[.pointer (some ⟨gx, 0, none⟩), .agg #[.int .i64 x, .int .i64 y], .int .i64 i] w fun o w' => o = .returned (.int .i64 (plV x y its i)) ∧ Below w.heap.size w w' := by
  have hba := below_alloc w (.cells #[.int .i64 x, .int .i64 y] 33)
  have hA := At.new 33 w #[.int .i64 x, .int .i64 y]
  have h1 := cell_below hba h0
  have hr1 := hr.below hba
  have hl := hr.len
  clear h0 hr
  obtain ⟨V, HV⟩ : ∃ z, Hid (plV x y its i = z) := ⟨_, rfl⟩
  rw [HV.out]
  obtain ⟨O, HO⟩ : ∃ z, Hid (plR x y its i 0 = z) := ⟨_, rfl⟩
  have HVO : Hid (V = oV O) := by show _ = _; rw [← HV.out, ← HO.out]; rfl
  clear HV
  go_enter Try.func39, Try.ntmps39
  go_wp2_with fail
  generalize (w.alloc (.cells #[.int .i64 x, .int .i64 y] 33)) = w1 at *
  generalize hgl : w.heap.size = gl at *
  clear h1
  go_loopw [7, 15] (fun v ix wr => ∃ (k : Nat) (q : Nat), k ≤ n ∧ q ≤ k ∧ ix = .int .i64 k ∧ v = .int .i64 q ∧ Hid (plR x y (its.drop k) (i - q) k = O) ∧ Below w1.heap.size w1 wr) (fun _ ix _ => n - (intOf ix).toNat)
  case atStart => exact ⟨0, 0, Nat.zero_le _, Nat.zero_le _, rfl, rfl, by show _ = _; rw [← HO.out]; simp, Below.refl _ _⟩
  case round =>
    clear HO
    obtain ⟨k, q, hk, hq, rfl, rfl, HR, hb⟩ := hrel
    by_cases h : k < n
    · have hki : (k : Int) < (n : Int) := by omega
      obtain ⟨gb, go, rfl, hc⟩ := (hr1.below hb).cells (by omega)
      obtain ⟨c0, c1, c2⟩ := hc k h
      have hR2 := HR.out
      rw [drop_consI (l := its) (k := k) (by omega)] at hR2
      unfold plR at hR2
      have hon := onL_iff (t := its.getD k (0, 0, ByteArray.empty)) (x := x) (y := y)
      generalize its.getD k (0, 0, ByteArray.empty) = t at *
      obtain ⟨t1, t2, tb⟩ := t
      dsimp only at c0 c1 c2 hon
      have hbx := below_alloc wr (.cells #[.int .i64 t1, .int .i64 t2, .string tb] 77)
      have hX := At.new 77 wr #[.int .i64 t1, .int .i64 t2, .string tb]
      have hb2 := hb.trans (hbx.mono hb.size)
      have hbz : Below gl w (wr.alloc (.cells #[.int .i64 t1, .int .i64 t2, .string tb] 77)) := hba.trans (hb2.mono (by have := hba.size; omega))
      have hE := neqLk t1 t2 x y
      obtain ⟨z0, z1, z2⟩ := hX.three
      obtain ⟨a0, a1⟩ := (hA.below hb2).two
      clear hc HR
      by_cases hsame : t1 = x ∧ t2 = y
      · have hE2 : ∀ w, (binOp .neq 33 (.agg #[.int .i64 t1, .int .i64 t2]) (.agg #[.int .i64 x, .int .i64 y])).run Try.prog w = .ok (.bool false) w := fun w => by rw [hE w, decide_eq_true hsame]; rfl
        rw [if_pos (hon.2 hsame)] at hR2
        by_cases hqi : (q : Int) = i
        · rw [if_pos (by omega)] at hR2
          have HN : Hid (V = (k : Int)) := by show _ = _; rw [HVO.out, ← hR2]; rfl
          have e1 : ((q : Int) == i) = true := by simpa using hqi
          clear hE hsame hR2 hon hqi HVO
          go_wp2_with fail
          go_ret
          exact ⟨ret_int HN.out.symm, by first | exact hbz | (rw [hgl]; exact hbz)⟩
        · rw [if_neg (by omega)] at hR2
          have HF : Hid (plR x y (its.drop (k + 1)) (i - ((q + 1 : Nat) : Int)) (k + 1) = O) := by show _ = _; rw [← hR2, show i - ((q + 1 : Nat) : Int) = i - (q : Int) - 1 by omega]
          have e1 : ((q : Int) == i) = false := by simpa using hqi
          clear hE hsame hR2 hon hqi hbz
          go_wp2_with fail
          go_roundw
          case rel => exact ⟨k + 1, q + 1, by omega, by omega, by go_num, by go_num, HF, hb2⟩
          case measure => simp [intOf]; omega
      · have hE2 : ∀ w, (binOp .neq 33 (.agg #[.int .i64 t1, .int .i64 t2]) (.agg #[.int .i64 x, .int .i64 y])).run Try.prog w = .ok (.bool true) w := fun w => by rw [hE w, decide_eq_false hsame]; rfl
        rw [if_neg (fun hh => hsame (hon.1 hh))] at hR2
        have HF : Hid (plR x y (its.drop (k + 1)) (i - (q : Int)) (k + 1) = O) := hR2
        clear hE hsame hR2 hon hbz
        go_wp2_with fail
        go_roundw
        case rel => exact ⟨k + 1, q, by omega, by omega, by go_num, rfl, HF, hb2⟩
        case measure => simp [intOf]; omega
    · have hki : ¬ (k : Int) < (n : Int) := by omega
      have e : its.drop k = [] := List.drop_of_length_le (by omega)
      have hR2 := HR.out
      rw [e] at hR2
      unfold plR at hR2
      have HN : Hid (V = -1) := by show _ = _; rw [HVO.out, ← hR2]; rfl
      have hbz : Below gl w wr := hba.trans (hb.mono (by have := hba.size; omega))
      clear HVO hR2 HR
      go_wp2_with fail
      go_ret
      exact ⟨ret_int HN.out.symm, by first | exact hbz | (rw [hgl]; exact hbz)⟩

set_option maxRecDepth 20000 in
set_option maxHeartbeats 2000000 in
theorem rright_any (w : World) (x y : Int) : Calls Try.prog 51 #[.agg #[.int .i64 x, .int .i64 y]] w fun o w' => o = .returned (.bool (isLk x y)) ∧ Below w.heap.size w w' := by
  have hba := below_alloc w (.cells #[.int .i64 x, .int .i64 y] 33)
  have hA := At.new 33 w #[.int .i64 x, .int .i64 y]
  obtain ⟨a0, a1⟩ := hA.two
  obtain ⟨V, HV⟩ : ∃ z, Hid (isLk x y = z) := ⟨_, rfl⟩
  rw [HV.out]
  have hv := HV.out
  unfold isLk isPl at hv
  by_cases h1 : 0 ≤ x
  · by_cases h2 : x < 32
    · by_cases h3 : 0 ≤ y
      · by_cases h4 : y < 32
        · by_cases h5 : x = y
          · have e5 : (x != y) = false := by simp [h5]
            have HN : Hid (V = false) := by show _ = _; rw [← hv]; simp [h5]
            clear hv HV h5
            go_enter Try.func51, Try.ntmps51
            go_wp2_with fail
            go_ret
            exact ⟨by rw [HN.out]; rfl, hba⟩
          · have e5 : (x != y) = true := by simp [h5]
            have HN : Hid (V = true) := by show _ = _; rw [← hv]; simp [h1, h2, h3, h4, h5]
            clear hv HV h5
            go_enter Try.func51, Try.ntmps51
            go_wp2_with fail
            go_ret
            exact ⟨by rw [HN.out]; rfl, hba⟩
        · have HN : Hid (V = false) := by show _ = _; rw [← hv]; simp [h4]
          clear hv HV
          go_enter Try.func51, Try.ntmps51
          go_wp2_with fail
          go_ret
          exact ⟨by rw [HN.out]; first | rfl | simp [h4], hba⟩
      · have HN : Hid (V = false) := by show _ = _; rw [← hv]; simp [h3]
        clear hv HV
        go_enter Try.func51, Try.ntmps51
        go_wp2_with fail
        go_ret
        exact ⟨by rw [HN.out]; first | rfl | simp [h3], hba⟩
    · have HN : Hid (V = false) := by show _ = _; rw [← hv]; simp [h2]
      clear hv HV
      go_enter Try.func51, Try.ntmps51
      go_wp2_with fail
      go_ret
      exact ⟨by rw [HN.out]; first | rfl | simp [h2], hba⟩
  · have HN : Hid (V = false) := by show _ = _; rw [← hv]; simp [h1]
    clear hv HV
    go_enter Try.func51, Try.ntmps51
    go_wp2_with fail
    go_ret
    exact ⟨by rw [HN.out]; first | rfl | simp [h1], hba⟩

end Go.Proofs.Ytmnipfdcbmamnaa.M
