/-
  Own text: slices of fields that can be read; how wide fields are together; the contract of width.
-/
import Derived.Test.YtddekakihandeaaDoorKPack
namespace Go.Proofs.YtddekakihandeaaDoor.M
open Go.ChangeShapes Go.WideShapes Go.ChangeAt Go.RowKit

/-- A field: bits, value, sign. -/
structure Fld where
  b : Int
  v : Int
  s : Bool

def Fld.z0 : Fld := ⟨0, 0, false⟩

/-- As the numbers of its kinds. -/
def Fld.ok (f : Fld) : Prop := (-9223372036854775808 ≤ f.b ∧ f.b ≤ 9223372036854775807) ∧ (-9223372036854775808 ≤ f.v ∧ f.v ≤ 9223372036854775807)

/-- A slice of fields that can be read. -/
structure RdF (w : World) (p : Option Addr) (n c : Nat) (fs : List Fld) : Prop where
  len : fs.length = n
  cap : n ≤ c
  nil : p = none → c = 0
  cells : 0 < n → ∃ b o, p = some ⟨b, o, none⟩ ∧ ∀ i, i < n → w.cell? ⟨b, o + i * 3, none⟩ = some (.int .i64 (fs.getD i .z0).b) ∧ w.cell? ⟨b, o + i * 3 + 1, none⟩ = some (.int .i64 (fs.getD i .z0).v) ∧ w.cell? ⟨b, o + i * 3 + 2, none⟩ = some (.bool (fs.getD i .z0).s)

theorem RdF.below {w w' : World} {p : Option Addr} {n c : Nat} {fs : List Fld} (h : RdF w p n c fs) (hb : Below w.heap.size w w') : RdF w' p n c fs := by
  refine ⟨h.len, h.cap, h.nil, fun hn => ?_⟩
  obtain ⟨b, o, hp, hc⟩ := h.cells hn
  refine ⟨b, o, hp, fun i hi => ?_⟩
  obtain ⟨h1, h2, h3⟩ := hc i hi
  have hlt := World.block_lt_of_cell? _ _ h1
  exact ⟨by rw [hb.cell (p := ⟨b, o + i * 3, none⟩) hlt]; exact h1, by rw [hb.cell (p := ⟨b, o + i * 3 + 1, none⟩) hlt]; exact h2, by rw [hb.cell (p := ⟨b, o + i * 3 + 2, none⟩) hlt]; exact h3⟩

/-- How many bits fields have together, s of them ahead; none: one has none, or a word has not as many. -/
def wdF : Nat → List Fld → Option Nat
  | s, [] => some s
  | s, f :: l => if f.b < 1 ∨ (64 : Int) - s < f.b then none else wdF (s + f.b.toNat) l

/-- What width answers. -/
def wdV : Option Nat → Value
  | some s => .tuple #[.int .i64 s, .bool true]
  | none => .tuple #[.int .i64 0, .bool false]

theorem drop_fld {fs : List Fld} {k : Nat} (h : k < fs.length) : fs.drop k = fs.getD k .z0 :: fs.drop (k + 1) := by
  rw [List.drop_eq_getElem_cons h, List.getD_eq_getElem?_getD, List.getElem?_eq_getElem h]
  rfl

set_option maxRecDepth 20000 in
set_option maxHeartbeats 1000000 in
theorem width_any (p : Option Addr) (n c : Nat) (fs : List Fld) (w : World) (hr : RdF w p n c fs) (hok : ∀ f ∈ fs, f.ok) (hn : n ≤ 1099511627776) :
    Calls Tryd.prog 20 #[.slice p n c] w fun e w' => e = .returned (wdV (wdF 0 fs)) ∧ Below w.heap.size w w' := by
  have hl := hr.len
  go_enter Tryd.func20, Tryd.ntmps20
  go_wp2_with fail
  go_loopw [4, 9] (fun s i wr => ∃ k t : Nat, k ≤ n ∧ t ≤ 64 ∧ i = .int .i64 k ∧ s = .int .i64 t ∧ Hid (wdF 0 fs = wdF t (fs.drop k)) ∧ Below w.heap.size w wr) (fun _ i _ => n - (intOf i).toNat)
  case atStart => exact ⟨0, 0, Nat.zero_le _, Nat.zero_le _, rfl, rfl, rfl, Below.refl _ _⟩
  case round =>
    obtain ⟨k, t, hk, ht, rfl, rfl, HW, hb⟩ := hrel
    by_cases h : k < n
    · obtain ⟨b, o, rfl, hc⟩ := hr.cells (by omega)
      obtain ⟨h1, h2, h3⟩ := hc k h
      have hlt := World.block_lt_of_cell? _ _ h1
      have g1 : wr.cell? ⟨b, o + k * 3, none⟩ = some (.int .i64 (fs.getD k .z0).b) := by rw [hb.cell (p := ⟨b, o + k * 3, none⟩) hlt]; exact h1
      have g2 : wr.cell? ⟨b, o + k * 3 + 1, none⟩ = some (.int .i64 (fs.getD k .z0).v) := by rw [hb.cell (p := ⟨b, o + k * 3 + 1, none⟩) hlt]; exact h2
      have g3 : wr.cell? ⟨b, o + k * 3 + 2, none⟩ = some (.bool (fs.getD k .z0).s) := by rw [hb.cell (p := ⟨b, o + k * 3 + 2, none⟩) hlt]; exact h3
      have hmem : fs.getD k .z0 ∈ fs := by
        rw [List.getD_eq_getElem?_getD, List.getElem?_eq_getElem (by omega)]
        exact List.getElem_mem (by omega)
      obtain ⟨⟨f1, f2⟩, _⟩ := hok _ hmem
      have hd := drop_fld (fs := fs) (k := k) (by omega)
      have HW2 := HW.out
      rw [hd] at HW2
      clear HW hmem hd h1 h2 h3 hlt hc hr hok
      have hba := hb.alloc hb.size (.cells #[.int .i64 (fs.getD k .z0).b, .int .i64 (fs.getD k .z0).v, .bool (fs.getD k .z0).s] 26)
      generalize fs.getD k .z0 = f at *
      obtain ⟨fb, fv, fsg⟩ := f
      dsimp only at f1 f2 g1 g2 g3 HW2 hba
      by_cases hw1 : fb < 1
      · have HN : Hid (wdF 0 fs = none) := by
          unfold Hid; rw [HW2]; unfold wdF; rw [if_pos (Or.inl hw1)]
        clear HW2 hb hl
        go_wp2_with fail
        go_ret2
        exact ⟨by rw [HN.out]; rfl, hba⟩
      · by_cases hw2 : (64 : Int) - t < fb
        · have HN : Hid (wdF 0 fs = none) := by
            unfold Hid; rw [HW2]; unfold wdF; rw [if_pos (Or.inr hw2)]
          clear HW2 hb hl
          go_wp2_with fail
          go_ret2
          exact ⟨by rw [HN.out]; rfl, hba⟩
        · have HN : Hid (wdF 0 fs = wdF (t + fb.toNat) (fs.drop (k + 1))) := by
            unfold Hid; rw [HW2]
            conv => lhs; unfold wdF
            rw [if_neg (show ¬ (fb < 1 ∨ (64 : Int) - (t : Int) < fb) by omega)]
          clear HW2 hb hl
          go_wp2_with fail
          go_roundw
          case rel => exact ⟨k + 1, t + fb.toNat, by omega, by omega, by go_num, by simp only [Value.int.injEq, true_and]; omega, HN, hba⟩
          case measure => simp [intOf]; omega
    · obtain rfl : k = n := by omega
      have hd : fs.drop k = [] := List.drop_of_length_le (by omega)
      have HN : Hid (wdF 0 fs = some t) := by
        unfold Hid; rw [HW.out, hd]; rfl
      clear HW hd hr hl
      go_wp2_with fail
      go_ret2
      exact ⟨by rw [HN.out]; rfl, hb⟩

/-- A number as a word. -/
def uw (v : Int) : Nat := (v % 18446744073709551616).toNat

theorem uw_wrap (v : Int) : IntKind.u64.wrap v = (uw v : Int) := by rw [IntKind.wrap_u64]; unfold uw; omega

theorem uw_lt (v : Int) : uw v < 18446744073709551616 := by unfold uw; omega

/-- Do so many bits hold a value? -/
def fitB (f : Fld) : Bool := if f.s then decide (-((2 ^ (f.b.toNat - 1) : Nat) : Int) ≤ f.v ∧ f.v < ((2 ^ (f.b.toNat - 1) : Nat) : Int)) else decide (0 ≤ f.v ∧ f.v < ((2 ^ f.b.toNat : Nat) : Int))

theorem sgn_fit (v : Int) (b : Nat) (h1 : 1 ≤ b) (h2 : b ≤ 64) (hv : -9223372036854775808 ≤ v ∧ v ≤ 9223372036854775807) : sgn (uw v) b = v ↔ (-((2 ^ (b - 1) : Nat) : Int) ≤ v ∧ v < ((2 ^ (b - 1) : Nat) : Int)) := by
  have hs := pow_split h2
  have hh := pow_half h1
  have hp : 0 < 2 ^ (64 - b) := Nat.pow_pos (by decide)
  have hlt : uw v % 2 ^ b < 2 ^ b := Nat.mod_lt _ (Nat.pow_pos (by decide))
  have hH : 0 < 2 ^ (b - 1) := Nat.pow_pos (by decide)
  -- the word is the value modulo 2^b
  have hmod : ∃ q : Int, v = ((uw v % 2 ^ b : Nat) : Int) + q * ((2 ^ b : Nat) : Int) := by
    have hd := Nat.div_add_mod (uw v) (2 ^ b)
    have hu : ((uw v : Nat) : Int) = v % 18446744073709551616 := by unfold uw; omega
    have hw : v = v % 18446744073709551616 + 18446744073709551616 * (v / 18446744073709551616) := by omega
    refine ⟨((uw v / 2 ^ b : Nat) : Int) + ((2 ^ (64 - b) : Nat) : Int) * (v / 18446744073709551616), ?_⟩
    have e1 : (((2 ^ b * (uw v / 2 ^ b) + uw v % 2 ^ b : Nat)) : Int) = v % 18446744073709551616 := by rw [hd]; exact hu
    have e2 : ((2 ^ b * 2 ^ (64 - b) : Nat) : Int) = 18446744073709551616 := by rw [hs]; rfl
    rw [Int.natCast_add, Int.natCast_mul] at e1
    rw [Int.natCast_mul] at e2
    rw [Int.add_mul]
    have e3 : ∀ z : Int, ((2 ^ (64 - b) : Nat) : Int) * z * ((2 ^ b : Nat) : Int) = 18446744073709551616 * z := fun z => by
      rw [Int.mul_assoc, Int.mul_comm z, ← Int.mul_assoc, Int.mul_comm ((2 ^ (64 - b) : Nat) : Int), e2]
    rw [e3, Int.mul_comm (((uw v / 2 ^ b : Nat)) : Int)]
    omega
  obtain ⟨q, hq⟩ := hmod
  unfold sgn
  generalize uw v % 2 ^ b = m at hlt hq ⊢
  generalize 2 ^ (b - 1) = Hh at hh hH ⊢
  generalize 2 ^ b = Bb at hh hlt hq ⊢
  subst hh
  constructor
  · intro h
    split at h <;> omega
  · intro ⟨h3, h4⟩
    have hq0 : q = 0 ∨ q = -1 := by
      rcases Int.lt_trichotomy q 0 with hlt0 | h0 | h0
      · right
        rcases Int.lt_or_le q (-1) with h5 | h5
        · exfalso
          have : q * ((2 * Hh : Nat) : Int) ≤ (-2) * ((2 * Hh : Nat) : Int) := Int.mul_le_mul_of_nonneg_right (by omega) (by omega)
          omega
        · omega
      · exact Or.inl h0
      · exfalso
        have : 1 * ((2 * Hh : Nat) : Int) ≤ q * ((2 * Hh : Nat) : Int) := Int.mul_le_mul_of_nonneg_right (by omega) (by omega)
        omega
    rcases hq0 with rfl | rfl
    · split <;> omega
    · split <;> omega

theorem fit_lo (v : Int) (b : Nat) (h1 : 1 ≤ b) (h2 : b ≤ 64) (hv : -9223372036854775808 ≤ v ∧ v ≤ 9223372036854775807) : (sgn (IntKind.u64.wrap v).toNat b == v) = fitB ⟨b, v, true⟩ := by
  have h := sgn_fit v b h1 h2 hv
  rw [uw_wrap, Int.toNat_natCast]
  unfold fitB
  rw [if_pos rfl]
  dsimp only
  rw [Int.toNat_natCast]
  by_cases hc : sgn (uw v) b = v
  · rw [beq_iff_eq.2 hc, decide_eq_true (h.1 hc)]
  · rw [beq_eq_false_iff_ne.2 hc, decide_eq_false (fun k => hc (h.2 k))]

set_option maxRecDepth 20000 in
theorem holds_below (b : Int) (v : Int) (w : World) (hv : v < 0) :
    Calls Tryd.prog 21 #[.agg #[.int .i64 b, .int .i64 v, .bool false]] w fun e w' => e = .returned (.bool false) ∧ Below w.heap.size w w' := by
  have hd : decide (0 ≤ v) = false := decide_eq_false (by omega)
  go_enter Tryd.func21, Tryd.ntmps21
  go_wp2
  go_quiet (fail)
  go_wp2
  go_ret
  exact ⟨rfl, below_drewN ((Below.refl _ _).alloc (Nat.le_refl _) _) nq⟩

theorem holds_any (f : Fld) (w : World) (h1 : 1 ≤ f.b) (h2 : f.b ≤ 64) (hv : -9223372036854775808 ≤ f.v ∧ f.v ≤ 9223372036854775807) :
    Calls Tryd.prog 21 #[.agg #[.int .i64 f.b, .int .i64 f.v, .bool f.s]] w fun e w' => e = .returned (.bool (fitB f)) ∧ Below w.heap.size w w' := by
  obtain ⟨fb, fv, fs⟩ := f
  dsimp only at h1 h2 hv
  obtain ⟨b, rfl⟩ := Int.eq_ofNat_of_zero_le (show 0 ≤ fb by omega)
  cases fs with
  | true =>
    have h := holds_sign b fv w (by omega) (by omega)
    rw [fit_lo fv b (by omega) (by omega) hv] at h
    exact h
  | false =>
    by_cases hn : fv < 0
    · have h := holds_below b fv w hn
      have e : fitB ⟨b, fv, false⟩ = false := by
        unfold fitB
        rw [if_neg Bool.false_ne_true]
        dsimp only
        exact decide_eq_false (by omega)
      rw [e]
      exact h
    · obtain ⟨v, rfl⟩ := Int.eq_ofNat_of_zero_le (show 0 ≤ fv by omega)
      have h := holds_plain b v w (by omega) (by omega)
      have hp : 0 < 2 ^ b := Nat.pow_pos (by decide)
      have e : fitB ⟨b, v, false⟩ = decide (v ≤ 2 ^ b - 1) := by
        unfold fitB
        rw [if_neg Bool.false_ne_true]
        dsimp only
        rw [Int.toNat_natCast, decide_eq_decide]
        omega
      rw [e]
      exact h

end Go.Proofs.YtddekakihandeaaDoor.M
