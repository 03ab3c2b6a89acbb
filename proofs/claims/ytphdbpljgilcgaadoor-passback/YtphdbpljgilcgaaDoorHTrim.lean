/-
  Own text: a key's text: contracts of bytes.TrimRight at one nought, of shelf.Name.
-/
import Derived.Test.YtphdbpljgilcgaaDoorHVal
import Derived.Lib.Strings
import Derived.Lib.Slices
import Derived.Lib.Walk
import Derived.Lib.Bytealg
import Derived.Deep.QuietTactic
import Derived.WalkSmall
import Derived.Laws.BytesArg
import Derived.Test.YtphdbpljgilcgaaDoorEq
import Derived.Lib.ConvBytes
namespace Go.Proofs.YtphdbpljgilcgaaDoor.M
open Go.ChangeShapes Go.WideShapes Go.ChangeAt Go.RowKit
set_option linter.unusedSimpArgs false

/-- How many bytes are left, of the first m, without the noughts behind. -/
def trimN (l : List Int) : Nat → Nat
  | 0 => 0
  | m + 1 => if l.getD m 0 = 0 then trimN l m else m + 1

theorem trimN_le (l : List Int) : ∀ m, trimN l m ≤ m
  | 0 => Nat.le_refl _
  | m + 1 => by
    unfold trimN
    split
    · have := trimN_le l m
      omega
    · omega

def lenS : Value → Nat
  | .slice _ n _ => n
  | _ => 0

set_option maxRecDepth 20000 in
set_option maxHeartbeats 1000000 in
theorem trimByte_any (b n c : Nat) (k : List Int) (w : World) (hr : Rd .u8 w (some ⟨b, 0, none⟩) n c k) (hc0 : 0 < c) (hn : n ≤ 1099511627776) :
    Calls Tryd.prog 49 #[.slice (some ⟨b, 0, none⟩) n c, .int .u8 0] w fun e w' => e = .returned (.slice (some ⟨b, 0, none⟩) (trimN k n) c) ∧ w' = w := by
  have hcap := hr.cap
  go_enter Tryd.func49, Tryd.ntmps49
  go_wp2_with fail
  go_loop [0] (fun s => ∃ m : Nat, m ≤ n ∧ s = .slice (some ⟨b, 0, none⟩) m c ∧ Hid (trimN k m = trimN k n)) (fun s => lenS s)
  case atStart => exact ⟨n, Nat.le_refl _, rfl, rfl⟩
  case round =>
    obtain ⟨m, hm, rfl, HT⟩ := hrel
    cases m with
    | zero =>
      have HT2 : Hid (trimN k n = 0) := HT.out.symm
      clear HT
      go_wp2_with fail
      go_ret
      exact ⟨by rw [HT2.out]; rfl, rfl⟩
    | succ j =>
      obtain ⟨b2, o2, e2, hcl⟩ := hr.cells (by omega)
      cases e2
      have hc := hcl j (by omega)
      rw [Nat.zero_add] at hc
      have hj1 : (0 : Int) < ((j + 1 : Nat) : Int) := by omega
      have hj2 : ((j + 1 : Nat) : Int) - 1 = (j : Int) := by omega
      have hj3 : (j : Int) ≤ (c : Int) := by omega
      by_cases hz : k.getD j 0 = 0
      · have HT2 : Hid (trimN k j = trimN k n) := by
          have h1 := HT.out
          rw [show trimN k (j + 1) = if k.getD j 0 = 0 then trimN k j else j + 1 from rfl, if_pos hz] at h1
          exact h1
        rw [hz] at hc
        clear HT hcl hz hr
        go_wp2_with fail
        go_round
        case rel => exact ⟨j, by omega, by go_num, HT2⟩
        case measure => simp [lenS]
      · have HT2 : Hid (trimN k n = j + 1) := by
          have h1 := HT.out
          rw [show trimN k (j + 1) = if k.getD j 0 = 0 then trimN k j else j + 1 from rfl, if_neg hz] at h1
          exact h1.symm
        generalize k.getD j 0 = x at hc hz
        have hx : decide (x = 0) = false := decide_eq_false hz
        have hx2 : (x == 0) = false := by simpa using hz
        clear HT hcl hr
        go_wp2_with fail
        go_ret
        exact ⟨by rw [HT2.out]; rfl, rfl⟩

set_option maxRecDepth 20000 in
set_option maxHeartbeats 1000000 in
theorem trim_any (b n c : Nat) (k : List Int) (w : World) (hr : Rd .u8 w (some ⟨b, 0, none⟩) n c k) (h0 : 0 < n) (hn : n ≤ 1099511627776) :
    Calls Tryd.prog 37 #[.slice (some ⟨b, 0, none⟩) n c, .string ⟨#[0]⟩] w fun e w' => e = .returned (.slice (some ⟨b, 0, none⟩) (trimN k n) c) ∧ w' = w := by
  have hcap := hr.cap
  have hC := trimByte_any b n c k w hr (by omega) hn
  have d1 : decide ((n : Int) = 0) = false := decide_eq_false (by omega)
  have d2 : ((n : Int) == 0) = false := by simp; omega
  have d3 : ((n : Nat) == 0) = false := by simp; omega
  clear hr
  go_enter Tryd.func37, Tryd.ntmps37
  go_wp2_with fail
  refine hC.mono ?_
  rintro e w1 ⟨rfl, rfl⟩
  clear hC
  go_wp2_with fail
  go_ret
  exact ⟨rfl, rfl⟩

theorem Rd.str {w : World} {p : Option Addr} {n c : Nat} {xs : List Int} (h : Rd .u8 w p n c xs) : (convert 27 9 (.slice p n c)).run Tryd.prog w = .ok (.string (strOfNums xs)) w :=
  h.conv (P := Tryd.prog) 27 5 9 Tryd.underlying27 Tryd.underlying5 Tryd.underlying9

theorem Rd.front {w : World} {p : Option Addr} {n c m : Nat} {xs : List Int} (h : Rd .u8 w p n c xs) (hm : m ≤ n) : Rd .u8 w p m c (xs.take m) := by
  refine ⟨by rw [List.length_take, h.len]; omega, Nat.le_trans hm h.cap, h.nil, fun h0 => ?_⟩
  obtain ⟨b, o, e, hc⟩ := h.cells (by omega)
  refine ⟨b, o, e, fun j hj => ?_⟩
  rw [hc j (by omega), List.getD_eq_getElem?_getD, List.getD_eq_getElem?_getD, List.getElem?_take_of_lt hj]

/-- A key's text. -/
def nameL (k : List Int) : List Int := k.take (trimN k 8)

set_option maxRecDepth 20000 in
set_option maxHeartbeats 1000000 in
theorem name_any (k : List Int) (hl : k.length = 8) (w : World) :
    Calls Tryd.prog 26 #[.agg (nums .u8 k)] w fun e w' => e = .returned (.string (strOfNums (nameL k))) ∧ Below w.heap.size w w' := by
  have hba := below_alloc w (.cells (nums .u8 k) 34)
  have hR : Rd .u8 (w.alloc (.cells (nums .u8 k) 34)) (some ⟨w.heap.size, 0, none⟩) 8 8 k := by
    refine ⟨hl, Nat.le_refl _, (fun h => by cases h), fun _ => ⟨w.heap.size, 0, rfl, fun i hi => ?_⟩⟩
    have h := (ArrI.new 34 .u8 w k).cell (i := i) (by omega)
    rw [Nat.zero_add]
    exact h
  have hC := trim_any w.heap.size 8 8 k _ hR (by decide) (by decide)
  have hst := (hR.front (trimN_le k 8)).str
  have HN : Hid (k.take (trimN k 8) = nameL k) := rfl
  rw [HN.out] at hst
  generalize trimN k 8 = m at hC hst
  generalize nameL k = nm at hst ⊢
  clear hR HN
  go_enter Tryd.func26, Tryd.ntmps26
  go_wp2_with fail
  refine hC.mono ?_
  rintro e w1 ⟨rfl, rfl⟩
  clear hC
  go_wp2_with fail
  go_ret
  exact ⟨rfl, hba⟩

end Go.Proofs.YtphdbpljgilcgaaDoor.M
