/-
  Own text: fields packed into a word, in plain words; the contract of the program's Pack.
-/
import Derived.Test.YtddekakihandeaaDoorKFld
namespace Go.Proofs.YtddekakihandeaaDoor.M
open Go.ChangeShapes Go.WideShapes Go.ChangeAt Go.RowKit

/-- Fields in a word behind x, from bit t on; none: one has no room for its value. -/
def pkF : Nat → Nat → List Fld → Option Nat
  | x, _, [] => some x
  | x, t, f :: l => if fitB f then pkF (x ||| uw f.v % 2 ^ f.b.toNat * 2 ^ t) (t + f.b.toNat) l else none

/-- What Pack answers. -/
def pkV : Option Nat → Value
  | some x => .tuple #[.int .u64 x, .int .i64 0]
  | none => .tuple #[.int .u64 0, .int .i64 20]

/-- The whole. -/
def packF (fs : List Fld) : Option Nat := if (wdF 0 fs).isSome then pkF 0 0 fs else none

theorem pk_lt {x t b v : Nat} (hx : x < 2 ^ t) : x ||| v % 2 ^ b * 2 ^ t < 2 ^ (t + b) := by
  have h1 : v % 2 ^ b < 2 ^ b := Nat.mod_lt _ (Nat.pow_pos (by decide))
  have h2 : v % 2 ^ b * 2 ^ t < 2 ^ (t + b) := by
    rw [Nat.pow_add, Nat.mul_comm]
    exact Nat.mul_lt_mul_of_pos_left h1 (Nat.pow_pos (by decide))
  have h3 : x < 2 ^ (t + b) := Nat.lt_of_lt_of_le hx (Nat.pow_le_pow_right (by decide) (by omega))
  exact Nat.or_lt_two_pow h3 h2

theorem pow_le64 {t : Nat} (h : t ≤ 64) : 2 ^ t ≤ 18446744073709551616 := Nat.pow_le_pow_right (n := 2) (by decide) h

theorem pk_bits {x t b : Nat} {v : Int} (hx : x < 2 ^ t) (hb : 1 ≤ b) (ht : t + b ≤ 64) :
    bits .and .u64 (IntKind.u64.wrap v) ((2 ^ b - 1 : Nat) : Int) = ((uw v % 2 ^ b : Nat) : Int) ∧
    IntKind.u64.wrap (((uw v % 2 ^ b : Nat) : Int) * 2 ^ t) = ((uw v % 2 ^ b * 2 ^ t : Nat) : Int) ∧
    bits .or .u64 (x : Int) ((uw v % 2 ^ b * 2 ^ t : Nat) : Int) = ((x ||| uw v % 2 ^ b * 2 ^ t : Nat) : Int) := by
  have hp := pow_le64 (t := t) (by omega)
  have hpb := pow_le64 (t := b) (by omega)
  have hpos : 0 < 2 ^ b := Nat.pow_pos (by decide)
  have h1 : uw v % 2 ^ b < 2 ^ b := Nat.mod_lt _ hpos
  have h2 : uw v % 2 ^ b * 2 ^ t < 18446744073709551616 := by
    have h3 : uw v % 2 ^ b * 2 ^ t < 2 ^ (t + b) := by
      rw [Nat.pow_add, Nat.mul_comm]
      exact Nat.mul_lt_mul_of_pos_left h1 (Nat.pow_pos (by decide))
    exact Nat.lt_of_lt_of_le h3 (pow_le64 ht)
  refine ⟨?_, ?_, ?_⟩
  · rw [uw_wrap, u64_and_nat _ _ (uw_lt v) (by omega), Nat.and_two_pow_sub_one_eq_mod]
  · rw [IntKind.wrap_u64, show (2 : Int) ^ t = ((2 ^ t : Nat) : Int) by rw [Int.natCast_pow]; rfl, ← Int.natCast_mul]
    generalize uw v % 2 ^ b * 2 ^ t = y at h2 ⊢
    omega
  · exact u64_or_nat _ _ (by omega) h2

set_option maxRecDepth 20000 in
set_option maxHeartbeats 1000000 in
theorem pack_any (p : Option Addr) (n c : Nat) (fs : List Fld) (w : World) (hr : RdF w p n c fs) (hok : ∀ f ∈ fs, f.ok) (hn : n ≤ 1099511627776) :
    Calls Tryd.prog 8 #[.slice p n c] w fun e w' => e = .returned (pkV (packF fs)) ∧ Below w.heap.size w w' := by
  have hl := hr.len
  have hW := width_any p n c fs w hr hok hn
  cases hwd : wdF 0 fs with
  | none =>
    have HN : Hid (packF fs = none) := by unfold Hid packF; rw [hwd]; rfl
    rw [hwd] at hW
    clear hr hl hwd
    go_enter Tryd.func8, Tryd.ntmps8
    go_wp2_with fail
    refine hW.mono ?_
    rintro e w1 ⟨rfl, hb⟩
    unfold wdV
    go_wp2_with fail
    go_ret2
    exact ⟨by rw [HN.out]; rfl, hb⟩
  | some S =>
    have HP : Hid (packF fs = pkF 0 0 fs) := by unfold Hid packF; rw [hwd]; rfl
    rw [hwd] at hW
    have HS : Hid (wdF 0 fs = some S) := hwd
    clear hwd
    go_enter Tryd.func8, Tryd.ntmps8
    go_wp2_with fail
    refine hW.mono ?_
    rintro e w1 ⟨rfl, hb⟩
    unfold wdV
    go_wp2_with fail
    go_loopw [6, 7, 19] (fun xv tv i wr => ∃ k x t : Nat, k ≤ n ∧ t ≤ 64 ∧ x < 2 ^ t ∧ i = .int .i64 k ∧ xv = .int .u64 x ∧ tv = .int .i64 t ∧ Hid (pkF 0 0 fs = pkF x t (fs.drop k)) ∧ Hid (wdF t (fs.drop k) = some S) ∧ Below w.heap.size w wr) (fun _ _ i _ => n - (intOf i).toNat)
    case atStart => exact ⟨0, 0, 0, Nat.zero_le _, Nat.zero_le _, by decide, rfl, rfl, rfl, rfl, HS, hb⟩
    case round =>
      clear hb hW HS
      obtain ⟨k, x, t, hk, ht, hx, rfl, rfl, rfl, HK, HS, hb⟩ := hrel
      by_cases h : k < n
      · obtain ⟨b, o, rfl, hc⟩ := hr.cells (by omega)
        obtain ⟨h1, h2, h3⟩ := hc k h
        have hlt := World.block_lt_of_cell? _ _ h1
        have g1 : wr.cell? ⟨b, o + k * 3, none⟩ = some (.int .i64 (fs.getD k .z0).b) := by rw [hb.cell (p := ⟨b, o + k * 3, none⟩) hlt]; exact h1
        have g2 : wr.cell? ⟨b, o + k * 3 + 1, none⟩ = some (.int .i64 (fs.getD k .z0).v) := by rw [hb.cell (p := ⟨b, o + k * 3 + 1, none⟩) hlt]; exact h2
        have g3 : wr.cell? ⟨b, o + k * 3 + 2, none⟩ = some (.bool (fs.getD k .z0).s) := by rw [hb.cell (p := ⟨b, o + k * 3 + 2, none⟩) hlt]; exact h3
        have hmem : fs.getD k .z0 ∈ fs := by
          rw [List.getD_eq_getElem?_getD, List.getElem?_eq_getElem (by omega)]
          exact List.getElem_mem (by omega)
        obtain ⟨_, fo⟩ := hok _ hmem
        have hd := drop_fld (fs := fs) (k := k) (by omega)
        have hK2 := HK.out
        have hS2 := HS.out
        rw [hd] at hK2 hS2
        clear HK HS hmem hd h1 h2 h3 hlt hc hr hok
        generalize fs.getD k .z0 = f at *
        obtain ⟨fb, fv, fsg⟩ := f
        unfold wdF at hS2
        by_cases hw1 : fb < 1 ∨ (64 : Int) - (t : Int) < fb
        · rw [if_pos hw1] at hS2; cases hS2
        · rw [if_neg hw1] at hS2
          dsimp only at fo g1 g2 g3 hS2
          obtain ⟨B, rfl⟩ := Int.eq_ofNat_of_zero_le (show 0 ≤ fb by omega)
          rw [Int.toNat_natCast] at hS2
          have hH := fun W => holds_any ⟨B, fv, fsg⟩ W (show (1 : Int) ≤ (B : Int) by omega) (show (B : Int) ≤ 64 by omega) fo
          have HS : Hid (wdF (t + B) (fs.drop (k + 1)) = some S) := hS2
          conv at hK2 => rhs; unfold pkF
          dsimp only at hK2 hH
          rw [Int.toNat_natCast] at hK2
          have hB1 : 1 ≤ B := by omega
          have hB2 : t + B ≤ 64 := by omega
          obtain ⟨e1, e2, e3⟩ := pk_bits (v := fv) hx hB1 hB2
          have hlx := pk_lt (b := B) (v := uw fv) hx
          have hba := hb.alloc hb.size (.cells #[.int .i64 (B : Int), .int .i64 fv, .bool fsg] 26)
          clear hS2 hw1 hl
          cases hf : fitB ⟨B, fv, fsg⟩ with
          | false =>
            have HN : Hid (pkF 0 0 fs = none) := by
              unfold Hid; rw [hK2, hf]; rfl
            rw [hf] at hH
            clear hK2 hf e1 e2 e3
            go_wp2_with fail
            refine (hH _).mono ?_
            rintro e w2 ⟨rfl, hb2⟩
            have hbb := hba.trans (hb2.mono hba.size)
            go_wp2_with fail
            go_ret2
            exact ⟨by rw [HP.out, HN.out]; rfl, hbb⟩
          | true =>
            have HN : Hid (pkF 0 0 fs = pkF (x ||| uw fv % 2 ^ B * 2 ^ t) (t + B) (fs.drop (k + 1))) := by
              unfold Hid; rw [hK2, hf]; rfl
            rw [hf] at hH
            have hO := fun W => ones_any B W (by omega)
            generalize uw fv % 2 ^ B * 2 ^ t = z at e2 e3 HN hlx
            generalize uw fv % 2 ^ B = y at e1 e2
            generalize 2 ^ B - 1 = os at e1 hO
            generalize x ||| z = x2 at e3 HN hlx
            clear hK2 hf
            go_wp2_with fail
            refine (hH _).mono ?_
            rintro e w2 ⟨rfl, hb2⟩
            have hbb := hba.trans (hb2.mono hba.size)
            have d0 : w2.cell? ⟨wr.heap.size, 0, none⟩ = some (.int .i64 B) := by rw [hb2.cell (p := ⟨wr.heap.size, 0, none⟩) (by simp)]; simp
            have d1 : w2.cell? ⟨wr.heap.size, 1, none⟩ = some (.int .i64 fv) := by rw [hb2.cell (p := ⟨wr.heap.size, 1, none⟩) (by simp)]; simp
            clear g1 g2 g3 hb hb2 hba hH
            go_wp2_with fail
            go_quiet ((go_at_call 22; exact Calls.quiet_of_same (hO _)))
            go_wp2_with fail
            go_roundw
            case rel => exact ⟨k + 1, x2, t + B, by omega, hB2, hlx, by go_num, rfl, by go_num, HN, HS, below_drewN hbb nq⟩
            case measure => simp [intOf]; omega
      · obtain rfl : k = n := by omega
        have hd : fs.drop k = [] := List.drop_of_length_le (by omega)
        have HN : Hid (packF fs = some x) := by
          unfold Hid; rw [HP.out, HK.out, hd]; rfl
        clear HK HS hd hr hl
        go_wp2_with fail
        go_ret2
        exact ⟨by rw [HN.out]; rfl, hb⟩

end Go.Proofs.YtddekakihandeaaDoor.M
