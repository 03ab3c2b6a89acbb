/-
  Own text: a file's crash and the disk's fall, in plain words.
-/
import Derived.Test.YtpjhadaiodnnaaaECrash
namespace Go.Proofs.Ytpjhadaiodnnaaa.M
open Go.ChangeShapes Go.WideShapes Go.ChangeAt Go.RowKit

/-- How much of what is told is sure. -/
def PF.sure (f : PF) : Nat := if f.cl then 0 else f.lasts.length

/-- What is left of a file's bytes behind a crash that keeps k. -/
def PF.rest (f : PF) (k : Int) : List Int := if k < 0 then f.lasts else f.told.take (f.sure + min k.toNat (f.told.length - f.sure))

def PF.crash (f : PF) (k : Int) : PF := ⟨f.rest k, f.rest k, false⟩

theorem sure_le {w : World} {B : Nat} {own : Nat → Nat} {a g : Nat} {d : Dk} {m : PD} (h : DA w B own a g d m) {i : Nat} (hi : i < 8) : (m.f i).sure ≤ (m.f i).told.length := by
  unfold PF.sure
  cases hc : (m.f i).cl with
  | true => exact Nat.zero_le _
  | false => exact ((h.fm i hi).begins ((h.cl i hi).trans hc)).length_le

theorem crash_any (w : World) (B : Nat) (own : Nat → Nat) (a g : Nat) (d : Dk) (m : PD) (h : DA w B own a g d m) (i : Nat) (hi : i < 8) (k : Int) (hn : (m.f i).told.length ≤ 1099511627776) :
    Calls Try.prog 88 #[.pointer (some ⟨g, 2 + i * 3, none⟩), .int .i64 k] w fun e w' => e = .returned (.tuple #[]) ∧ ∃ d', DA w' B own a g d' { m with f := upP m.f i ((m.f i).crash k) } ∧ Ch (fun k => k = g) w w' := by
  have hfm := h.fm i hi
  by_cases hk : k < 0
  · refine (crash_low w g d h.dc i hi k hk).mono ?_
    rintro e w' ⟨rfl, hc, hd⟩
    refine ⟨rfl, _, h.file hi _ ((m.f i).crash k) hc hd rfl ?_, hc⟩
    have hr : (m.f i).rest k = (m.f i).lasts := if_pos hk
    unfold PF.crash
    dsimp only
    rw [hr]
    exact ⟨hfm.lasts, hfm.lasts, hfm.lg, hfm.lg, (fun _ => List.prefix_refl _), (fun e => by cases e)⟩
  · obtain ⟨K, rfl⟩ := Int.eq_ofNat_of_zero_le (show 0 ≤ k by omega)
    have hs := sure_le h hi
    have htn := fl_tn h hi
    have hsu : (m.f i).sure = if (d.fl i).cl then 0 else (d.fl i).ln := by
      unfold PF.sure
      rw [h.cl i hi, hfm.lasts.len]
    have hcap : (d.fl i).tn ≤ (d.fl i).tc := hfm.told.ow.cap
    have hnil : (d.fl i).tp = none → (d.fl i).tc = 0 := fun e => by
      have := hfm.told.ow
      rw [e] at this
      exact this.none
    refine (crash_high w g d h.dc i hi K _ hsu (by omega) hcap (by omega) hnil).mono ?_
    rintro e w' ⟨rfl, hc, hd⟩
    refine ⟨rfl, _, h.file hi _ ((m.f i).crash K) hc hd rfl ?_, hc⟩
    have hr : (m.f i).rest K = (m.f i).told.take ((m.f i).sure + min K ((d.fl i).tn - (m.f i).sure)) := by
      unfold PF.rest
      rw [if_neg hk, Int.toNat_natCast, htn]
    unfold PF.crash
    dsimp only
    rw [hr]
    have ht := hfm.told.take (j := (m.f i).sure + min K ((d.fl i).tn - (m.f i).sure)) (by omega)
    exact ⟨ht, ht, hfm.tg, hfm.tg, (fun _ => List.prefix_refl _), (fun e => by cases e)⟩

/-- The i-th of what is to be kept; below 0, if there is none. -/
def keepAt (keep : List Int) (i : Nat) : Int := if i < keep.length then keep.getD i 0 else -1

/-- The first k files behind a fall. -/
def fallN (f : Nat → PF) (keep : List Int) (k : Nat) : Nat → PF := fun i => if i < k then (f i).crash (keepAt keep i) else f i

theorem fallN_step (f : Nat → PF) (keep : List Int) (k : Nat) : upP (fallN f keep k) k ((fallN f keep k k).crash (keepAt keep k)) = fallN f keep (k + 1) := by
  funext i
  unfold upP fallN
  by_cases h : i = k
  · subst h
    rw [if_pos rfl, if_neg (Nat.lt_irrefl _), if_pos (Nat.lt_succ_self _)]
  · rw [if_neg h]
    by_cases h2 : i < k
    · rw [if_pos h2, if_pos (by omega)]
    · rw [if_neg h2, if_neg (by omega)]

/-- A disk behind a fall. -/
def PD.fall (m : PD) (keep : List Int) : PD := { m with down := true, left := 0, keep := [], f := fallN m.f keep 8 }

set_option maxRecDepth 20000 in
theorem fall_any (w : World) (B : Nat) (own : Nat → Nat) (a g : Nat) (d : Dk) (m : PD) (h : DA w B own a g d m) (q : Option Addr) (l c : Nat) (keep : List Int) (hr : Rd .i64 w q l c keep) (hl : l ≤ 1099511627776) (hq : ∀ x, q = some x → 0 < l → x.block ≠ g) (hn : ∀ i, i < 8 → (m.f i).told.length ≤ 1099511627776) :
    Calls Try.prog 62 #[.pointer (some ⟨g, 0, none⟩), .slice q l c] w fun e w' => e = .returned (.tuple #[]) ∧ ∃ d', DA w' B own a g d' (m.fall keep) ∧ Ch (fun k => k = g) w w' := by
  have hc1 := h.dc.down
  have hf1 := h.dc.free 1
  have hd1 := h.dc.setDown true
  have hc26 := hd1.left
  have hc27 := hd1.keep
  have hf26 := hd1.free 26
  have hd2 := hd1.setLeft 0
  have hd3 := hd2.setKeep none 0 0
  have hf27 := h.dc.free 27
  have hc3 : Ch (fun k => k = g) w (((w.setCell ⟨g, 1, none⟩ (.bool true)).setCell ⟨g, 26, none⟩ (.int .i64 0)).setCell ⟨g, 27, none⟩ (.slice none 0 0)) := (Ch.cells2 w g 1 26 _ _).trans (Ch.setCell _ ⟨g, 27, none⟩ _)
  have hA3 : DA (((w.setCell ⟨g, 1, none⟩ (.bool true)).setCell ⟨g, 26, none⟩ (.int .i64 0)).setCell ⟨g, 27, none⟩ (.slice none 0 0)) B own a g _ { m with down := true, left := 0, keep := [], f := fallN m.f keep 0 } :=
    DA.mend hc3 hd3 h.room rfl rfl h.cl h.fm ⟨rfl, Nat.le_refl _, fun _ => rfl, fun h => absurd h (Nat.lt_irrefl _)⟩ h.og (fun x e => by cases e) h.bg h.fr
  go_enter Try.func62, Try.ntmps62
  go_wp2_with fail
  clear hd1 hd2 hd3 hc1 hf1 hc26 hc27 hf26 hf27 h
  generalize ((w.setCell ⟨g, 1, none⟩ (.bool true)).setCell ⟨g, 26, none⟩ (.int .i64 0)).setCell ⟨g, 27, none⟩ (.slice none 0 0) = w3 at *
  go_loopw [13] (fun i wr => ∃ (k : Nat) (d' : Dk), k ≤ 8 ∧ i = .int .i64 k ∧ DA wr B own a g d' { m with down := true, left := 0, keep := [], f := fallN m.f keep k } ∧ Ch (fun k => k = g) w wr) (fun i _ => 8 - (intOf i).toNat)
  case atStart => exact ⟨0, _, Nat.zero_le _, rfl, hA3, hc3⟩
  case round =>
    clear hA3 hc3
    obtain ⟨k, d', hk, rfl, hA, hc⟩ := hrel
    by_cases h8 : k < 8
    · have hfk : fallN m.f keep k k = m.f k := if_neg (Nat.lt_irrefl _)
      have hC := crash_any wr B own a g d' _ hA k h8 (keepAt keep k) (by dsimp only; rw [hfk]; exact hn k h8)
      dsimp only at hC
      rw [fallN_step] at hC
      have hrd := hA.dc.room
      have hr2 := hr.ch0 hc (fun x e e0 e2 => hq x e e0 e2)
      by_cases hkl : k < l
      · obtain ⟨b, o, rfl, hcs⟩ := hr2.cells (by omega)
        have hck := hcs k hkl
        have hka : keepAt keep k = keep.getD k 0 := if_pos (by rw [hr.len]; exact hkl)
        rw [hka] at hC
        generalize keep.getD k 0 = kv at *
        clear hcs hr2 hr hA hfk hka
        go_wp2_with fail
        refine hC.mono ?_
        rintro e w4 ⟨rfl, d4, hA4, hc4⟩
        go_wp2_with fail
        go_roundw
        case rel => exact ⟨k + 1, d4, by omega, by go_num, hA4, hc.trans hc4⟩
        case measure => simp [intOf]; omega
      · have hka : keepAt keep k = -1 := if_neg (by rw [hr.len]; exact hkl)
        rw [hka] at hC
        clear hr2 hr hA hfk hka
        go_wp2_with fail
        refine hC.mono ?_
        rintro e w4 ⟨rfl, d4, hA4, hc4⟩
        go_wp2_with fail
        go_roundw
        case rel => exact ⟨k + 1, d4, by omega, by go_num, hA4, hc.trans hc4⟩
        case measure => simp [intOf]; omega
    · obtain rfl : k = 8 := by omega
      go_wp2_with fail
      go_end0
      exact ⟨rfl, d', hA, hc⟩

end Go.Proofs.Ytpjhadaiodnnaaa.M
