/-
  Own text: a file's crash and the disk's fall, in plain words.
  Own text: the contract of the disk's act: so much of something is done as the fuse lasts.
  Own text: contracts of the disk's Sync and Clear.
-/
import Derived.Test.YtpjhadaiodnnaaaECrash
namespace Go.Proofs.Ytpjhadaiodnnaaa.M
open Go.ChangeShapes Go.WideShapes Go.ChangeAt Go.RowKit

/-- How much of what is told is sure. -/
def PF.sure (f : PF) : Nat := if f.cl then 0 else f.lasts.length

/-- What is left of a file's bytes behind a crash that keeps k. -/
def PF.rest (f : PF) (k : Int) : List Int := if k < 0 then f.lasts else f.told.take (f.sure + min k.toNat (f.told.length - f.sure))

def PF.crash (f : PF) (k : Int) : PF := ⟨f.rest k, f.rest k, false⟩

theorem sure_le {w : World} {B : Nat} {own : Nat → Nat} {a g : Nat} {d : Dk} {m : PD} (h : DA w B own a g d m) {i : Nat} (hi : i < 8) : (m.f i).sure ≤ (m.f i).told.length := by
  unfold PF.sure
  cases hc : (m.f i).cl with
  | true => exact Nat.zero_le _
  | false => exact ((h.fm i hi).begins ((h.cl i hi).trans hc)).length_le

theorem crash_any (w : World) (B : Nat) (own : Nat → Nat) (a g : Nat) (d : Dk) (m : PD) (h : DA w B own a g d m) (i : Nat) (hi : i < 8) (k : Int) (hn : (m.f i).told.length ≤ 1099511627776) :
    Calls Try.prog 88 #[.pointer (some ⟨g, 2 + i * 3, none⟩), .int .i64 k] w fun e w' => e = .returned (.tuple #[]) ∧ ∃ d', DA w' B own a g d' { m with f := upP m.f i ((m.f i).crash k) } ∧ Ch (fun k => k = g) w w' := by
  have hfm := h.fm i hi
  by_cases hk : k < 0
  · refine (crash_low w g d h.dc i hi k hk).mono ?_
    rintro e w' ⟨rfl, hc, hd⟩
    refine ⟨rfl, _, h.file hi _ ((m.f i).crash k) hc hd rfl ?_, hc⟩
    have hr : (m.f i).rest k = (m.f i).lasts := if_pos hk
    unfold PF.crash
    dsimp only
    rw [hr]
    exact ⟨hfm.lasts, hfm.lasts, hfm.lg, hfm.lg, (fun _ => List.prefix_refl _), (fun e => by cases e)⟩
  · obtain ⟨K, rfl⟩ := Int.eq_ofNat_of_zero_le (show 0 ≤ k by omega)
    have hs := sure_le h hi
    have htn := fl_tn h hi
    have hsu : (m.f i).sure = if (d.fl i).cl then 0 else (d.fl i).ln := by
      unfold PF.sure
      rw [h.cl i hi, hfm.lasts.len]
    have hcap : (d.fl i).tn ≤ (d.fl i).tc := hfm.told.ow.cap
    have hnil : (d.fl i).tp = none → (d.fl i).tc = 0 := fun e => by
      have := hfm.told.ow
      rw [e] at this
      exact this.none
    refine (crash_high w g d h.dc i hi K _ hsu (by omega) hcap (by omega) hnil).mono ?_
    rintro e w' ⟨rfl, hc, hd⟩
    refine ⟨rfl, _, h.file hi _ ((m.f i).crash K) hc hd rfl ?_, hc⟩
    have hr : (m.f i).rest K = (m.f i).told.take ((m.f i).sure + min K ((d.fl i).tn - (m.f i).sure)) := by
      unfold PF.rest
      rw [if_neg hk, Int.toNat_natCast, htn]
    unfold PF.crash
    dsimp only
    rw [hr]
    have ht := hfm.told.take (j := (m.f i).sure + min K ((d.fl i).tn - (m.f i).sure)) (by omega)
    exact ⟨ht, ht, hfm.tg, hfm.tg, (fun _ => List.prefix_refl _), (fun e => by cases e)⟩

/-- The i-th of what is to be kept; below 0, if there is none. -/
def keepAt (keep : List Int) (i : Nat) : Int := if i < keep.length then keep.getD i 0 else -1

/-- The first k files behind a fall. -/
def fallN (f : Nat → PF) (keep : List Int) (k : Nat) : Nat → PF := fun i => if i < k then (f i).crash (keepAt keep i) else f i

theorem fallN_step (f : Nat → PF) (keep : List Int) (k : Nat) : upP (fallN f keep k) k ((fallN f keep k k).crash (keepAt keep k)) = fallN f keep (k + 1) := by
  funext i
  unfold upP fallN
  by_cases h : i = k
  · subst h
    rw [if_pos rfl, if_neg (Nat.lt_irrefl _), if_pos (Nat.lt_succ_self _)]
  · rw [if_neg h]
    by_cases h2 : i < k
    · rw [if_pos h2, if_pos (by omega)]
    · rw [if_neg h2, if_neg (by omega)]

/-- A disk behind a fall. -/
def PD.fall (m : PD) (keep : List Int) : PD := { m with down := true, left := 0, keep := [], f := fallN m.f keep 8 }

set_option maxRecDepth 20000 in
theorem fall_any (w : World) (B : Nat) (own : Nat → Nat) (a g : Nat) (d : Dk) (m : PD) (h : DA w B own a g d m) (q : Option Addr) (l c : Nat) (keep : List Int) (hr : Rd .i64 w q l c keep) (hl : l ≤ 1099511627776) (hq : ∀ x, q = some x → 0 < l → x.block ≠ g) (hn : ∀ i, i < 8 → (m.f i).told.length ≤ 1099511627776) :
    Calls Try.prog 62 #[.pointer (some ⟨g, 0, none⟩), .slice q l c] w fun e w' => e = .returned (.tuple #[]) ∧ ∃ d', DA w' B own a g d' (m.fall keep) ∧ Ch (fun k => k = g) w w' := by
  have hc1 := h.dc.down
  have hf1 := h.dc.free 1
  have hd1 := h.dc.setDown true
  have hc26 := hd1.left
  have hc27 := hd1.keep
  have hf26 := hd1.free 26
  have hd2 := hd1.setLeft 0
  have hd3 := hd2.setKeep none 0 0
  have hf27 := h.dc.free 27
  have hc3 : Ch (fun k => k = g) w (((w.setCell ⟨g, 1, none⟩ (.bool true)).setCell ⟨g, 26, none⟩ (.int .i64 0)).setCell ⟨g, 27, none⟩ (.slice none 0 0)) := (Ch.cells2 w g 1 26 _ _).trans (Ch.setCell _ ⟨g, 27, none⟩ _)
  have hA3 : DA (((w.setCell ⟨g, 1, none⟩ (.bool true)).setCell ⟨g, 26, none⟩ (.int .i64 0)).setCell ⟨g, 27, none⟩ (.slice none 0 0)) B own a g _ { m with down := true, left := 0, keep := [], f := fallN m.f keep 0 } :=
    DA.mend hc3 hd3 h.room rfl rfl h.cl h.fm ⟨rfl, Nat.le_refl _, fun _ => rfl, fun h => absurd h (Nat.lt_irrefl _)⟩ h.og (fun x e => by cases e) h.bg h.fr
  go_enter Try.func62, Try.ntmps62
  go_wp2_with fail
  clear hd1 hd2 hd3 hc1 hf1 hc26 hc27 hf26 hf27 h
  generalize ((w.setCell ⟨g, 1, none⟩ (.bool true)).setCell ⟨g, 26, none⟩ (.int .i64 0)).setCell ⟨g, 27, none⟩ (.slice none 0 0) = w3 at *
  go_loopw [13] (fun i wr => ∃ (k : Nat) (d' : Dk), k ≤ 8 ∧ i = .int .i64 k ∧ DA wr B own a g d' { m with down := true, left := 0, keep := [], f := fallN m.f keep k } ∧ Ch (fun k => k = g) w wr) (fun i _ => 8 - (intOf i).toNat)
  case atStart => exact ⟨0, _, Nat.zero_le _, rfl, hA3, hc3⟩
  case round =>
    clear hA3 hc3
    obtain ⟨k, d', hk, rfl, hA, hc⟩ := hrel
    by_cases h8 : k < 8
    · have hfk : fallN m.f keep k k = m.f k := if_neg (Nat.lt_irrefl _)
      have hC := crash_any wr B own a g d' _ hA k h8 (keepAt keep k) (by dsimp only; rw [hfk]; exact hn k h8)
      dsimp only at hC
      rw [fallN_step] at hC
      have hrd := hA.dc.room
      have hr2 := hr.ch0 hc (fun x e e0 e2 => hq x e e0 e2)
      by_cases hkl : k < l
      · obtain ⟨b, o, rfl, hcs⟩ := hr2.cells (by omega)
        have hck := hcs k hkl
        have hka : keepAt keep k = keep.getD k 0 := if_pos (by rw [hr.len]; exact hkl)
        rw [hka] at hC
        generalize keep.getD k 0 = kv at *
        clear hcs hr2 hr hA hfk hka
        go_wp2_with fail
        refine hC.mono ?_
        rintro e w4 ⟨rfl, d4, hA4, hc4⟩
        go_wp2_with fail
        go_roundw
        case rel => exact ⟨k + 1, d4, by omega, by go_num, hA4, hc.trans hc4⟩
        case measure => simp [intOf]; omega
      · have hka : keepAt keep k = -1 := if_neg (by rw [hr.len]; exact hkl)
        rw [hka] at hC
        clear hr2 hr hA hfk hka
        go_wp2_with fail
        refine hC.mono ?_
        rintro e w4 ⟨rfl, d4, hA4, hc4⟩
        go_wp2_with fail
        go_roundw
        case rel => exact ⟨k + 1, d4, by omega, by go_num, hA4, hc.trans hc4⟩
        case measure => simp [intOf]; omega
    · obtain rfl : k = 8 := by omega
      go_wp2_with fail
      go_end0
      exact ⟨rfl, d', hA, hc⟩

end Go.Proofs.Ytpjhadaiodnnaaa.M

namespace Go.Proofs.Ytpjhadaiodnnaaa.M
open Go.ChangeShapes Go.WideShapes Go.ChangeAt Go.RowKit

/-- A disk behind an act of n bytes, of which X does so many. -/
def PD.act (m : PD) (n : Nat) (X : Nat → Nat → PF) : PD :=
  if m.left = 0 then { m with f := X n } else if m.left ≤ n then ({ m with f := X m.left } : PD).fall m.keep else { m with left := m.left - n, f := X n }

/-- Whether the power goes. -/
def PD.gone (m : PD) (n : Nat) : Bool := decide (0 < m.left ∧ m.left ≤ n)

/-- What is answered. -/
def goneE (b : Bool) : Int := if b then 50 else 0

theorem setLeft_any {w : World} {B : Nat} {own : Nat → Nat} {a g : Nat} {d : Dk} {m : PD} (h : DA w B own a g d m) (n : Nat) : DA (w.setCell ⟨g, 26, none⟩ (.int .i64 n)) B own a g { d with left := n } { m with left := n } :=
  DA.mend (Ch.setCell w ⟨g, 26, none⟩ _) (h.dc.setLeft n) h.room h.down rfl h.cl h.fm h.keep h.og h.ok h.bg h.fr

set_option maxRecDepth 20000 in
theorem act_any (F : FuncId) (hcf : ∀ (args : Array Value) (w : World), (callFunc F args).run Try.prog w = .ok (.enter F args) w) (caps : Array Value) (S : Nat → Prop) (w : World) (B : Nat) (own : Nat → Nat) (a g : Nat) (d : Dk) (m : PD) (h : DA w B own a g d m) (hg : S g) (n : Nat) (X : Nat → Nat → PF)
    (hX : ∀ n1, n1 ≤ n → ∀ i, i < 8 → (X n1 i).told.length ≤ 1099511627776) (hkl : m.keep.length ≤ 1099511627776) (hlm : m.left ≤ 9223372036854775807)
    (hdo : ∀ w1 d1 m1 n1, DA w1 B own a g d1 m1 → m1.f = m.f → n1 ≤ n → Ch (fun k => k = g) w w1 → Calls Try.prog F (#[.int .i64 (n1 : Nat)] ++ caps) w1 fun e w2 => e = .returned (.tuple #[]) ∧ ∃ own2 d2, DA w2 B own2 a g d2 { m1 with f := X n1 } ∧ (∀ k, k < w1.heap.size → own2 k = own k) ∧ Ch S w1 w2) :
    Calls Try.prog 39 #[.pointer (some ⟨g, 0, none⟩), .int .i64 n, .func (.func F) #[] caps] w fun e w' => e = .returned (.int .i64 (goneE (m.gone n))) ∧ ∃ own2 d2, DA w' B own2 a g d2 (m.act n X) ∧ (∀ k, k < w.heap.size → own2 k = own k) ∧ Ch S w w' := by
  have hcr := h.dc.room
  by_cases h0 : m.left = 0
  · have hB := burn_none w g d h.dc (h.left.trans h0) n
    have hD := hdo w d m n h rfl (Nat.le_refl _) (Ch.refl _ _)
    have HA : Hid (m.act n X = { m with f := X n }) := if_pos h0
    have HG : Hid (m.gone n = false) := decide_eq_false (by omega)
    go_enter Try.func39, Try.ntmps39
    go_wp2_with fail
    refine hB.mono ?_
    rintro e w1 ⟨rfl, rfl⟩
    go_wp2_with fail
    refine hD.mono ?_
    rintro e w2 ⟨rfl, own2, d2, hA2, ho2, hc2⟩
    go_wp2_with fail
    go_ret
    exact ⟨by rw [HG.out]; rfl, own2, d2, by rw [HA.out]; exact hA2, ho2, hc2⟩
  · by_cases h1 : m.left ≤ n
    · have hB := burn_out w g d h.dc (by rw [h.left]; omega) n (by rw [h.left]; exact h1)
      rw [h.left] at hB
      have hD := hdo w d m m.left h rfl h1 (Ch.refl _ _)
      have HA : Hid (m.act n X = ({ m with f := X m.left } : PD).fall m.keep) := by
        unfold Hid PD.act
        rw [if_neg h0, if_pos h1]
      have HG : Hid (m.gone n = true) := decide_eq_true (by omega)
      have hX1 := hX m.left h1
      clear hdo hX
      go_enter Try.func39, Try.ntmps39
      go_wp2_with fail
      refine hB.mono ?_
      rintro e w1 ⟨rfl, rfl⟩
      go_wp2_with fail
      refine hD.mono ?_
      rintro e w2 ⟨rfl, own2, d2, hA2, ho2, hc2⟩
      have hkl2 := hA2.keep.len
      have hck := hA2.dc.keep
      have hcr2 := hA2.dc.room
      have hFa := fall_any w2 B own2 a g d2 _ hA2 d2.kp d2.kn d2.kc m.keep hA2.keep (by rw [← hkl2]; exact hkl) (fun x e _ => (hA2.ok x e).2.1) hX1
      clear hA2 hkl2 hB hD
      generalize d2.kp = kp at *
      generalize d2.kn = kn at *
      generalize d2.kc = kc at *
      go_wp2_with fail
      refine hFa.mono ?_
      rintro e w3 ⟨rfl, d3, hA3, hc3⟩
      go_wp2_with fail
      go_ret
      exact ⟨by rw [HG.out]; rfl, own2, d3, by rw [HA.out]; exact hA3, ho2, hc2.trans (hc3.mono fun k _ e => by rw [e]; exact hg)⟩
    · have hB := burn_on w g d h.dc n (by rw [h.left]; omega) (by rw [h.left]; exact hlm)
      rw [h.left] at hB
      have hA1 := setLeft_any h (m.left - n)
      have hc1 := Ch.setCell w ⟨g, 26, none⟩ (.int .i64 ((m.left - n : Nat) : Int))
      have hD := hdo _ _ _ n hA1 rfl (Nat.le_refl _) hc1
      have HA : Hid (m.act n X = { m with left := m.left - n, f := X n }) := by
        unfold Hid PD.act
        rw [if_neg h0, if_neg h1]
      have HG : Hid (m.gone n = false) := decide_eq_false (by omega)
      have hsz : w.heap.size ≤ (w.setCell ⟨g, 26, none⟩ (.int .i64 ((m.left - n : Nat) : Int))).heap.size := hc1.size
      have hc1' := hc1.mono (T := S) fun k _ e => by rw [e]; exact hg
      clear hdo hX hA1 h
      go_enter Try.func39, Try.ntmps39
      go_wp2_with fail
      refine hB.mono ?_
      rintro e w1 ⟨rfl, rfl⟩
      go_wp2_with fail
      refine hD.mono ?_
      rintro e w2 ⟨rfl, own2, d2, hA2, ho2, hc2⟩
      go_wp2_with fail
      go_ret
      exact ⟨by rw [HG.out]; rfl, own2, d2, by rw [HA.out]; exact hA2, fun k hk => ho2 k (Nat.lt_of_lt_of_le hk hsz), hc1'.trans hc2⟩

end Go.Proofs.Ytpjhadaiodnnaaa.M

namespace Go.Proofs.Ytpjhadaiodnnaaa.M
open Go.ChangeShapes Go.WideShapes Go.ChangeAt Go.RowKit

theorem cf_of {F : FuncId} {fn : Func} (h : Try.prog.funcs[F]? = some fn) (h1 : (fn.name == "runtime.NumGoroutine") = false) (h2 : fn.body.isNone = false) (args : Array Value) (w : World) : (callFunc F args).run Try.prog w = .ok (.enter F args) w := by
  have h3 : ¬ fn.name = "runtime.NumGoroutine" := fun e => by rw [e] at h1; simp at h1
  have h4 : ¬ fn.body = none := fun e => by rw [e] at h2; cases h2
  unfold callFunc
  simp [Sem.run_bind, h, h3, h4]

theorem cfSync (args : Array Value) (w : World) : (callFunc 80 args).run Try.prog w = .ok (.enter 80 args) w := cf_of Try.func80 (by kernel_rfl) (by kernel_rfl) args w
theorem cfClear (args : Array Value) (w : World) : (callFunc 101 args).run Try.prog w = .ok (.enter 101 args) w := cf_of Try.func101 (by kernel_rfl) (by kernel_rfl) args w
theorem cfAppend (args : Array Value) (w : World) : (callFunc 40 args).run Try.prog w = .ok (.enter 40 args) w := cf_of Try.func40 (by kernel_rfl) (by kernel_rfl) args w

set_option maxRecDepth 20000 in
theorem sync1_any (w : World) (B : Nat) (own : Nat → Nat) (a g : Nat) (d : Dk) (m : PD) (h : DA w B own a g d m) (i : Nat) (hi : i < 8) (n bx : Nat) (hbx : w.cell? ⟨bx, 0, none⟩ = some (.pointer (some ⟨g, 2 + i * 3, none⟩))) :
    Calls Try.prog 80 #[.int .i64 n, .pointer (some ⟨bx, 0, none⟩)] w fun e w' => e = .returned (.tuple #[]) ∧ ∃ own2 d2, DA w' B own2 a g d2 { m with f := upP m.f i ⟨(m.f i).told, (m.f i).told, false⟩ } ∧ (∀ k, k < w.heap.size → own2 k = own k) ∧ Ch (fun k => k = g ∨ own k = mark a i) w w' := by
  have hS := sync_any w B own a g d m h i hi
  clear h
  go_enter Try.func80, Try.ntmps80
  go_wp2_with fail
  refine hS.mono ?_
  rintro e w1 ⟨rfl, d1, hA, hc⟩
  go_wp2_with fail
  go_end0
  exact ⟨rfl, own, d1, hA, fun _ _ => rfl, hc.mono fun k _ e => Or.inl e⟩

set_option maxRecDepth 20000 in
theorem clear1_any (w : World) (B : Nat) (own : Nat → Nat) (a g : Nat) (d : Dk) (m : PD) (h : DA w B own a g d m) (i : Nat) (hi : i < 8) (n bx : Nat) (hbx : w.cell? ⟨bx, 0, none⟩ = some (.pointer (some ⟨g, 2 + i * 3, none⟩))) :
    Calls Try.prog 101 #[.int .i64 n, .pointer (some ⟨bx, 0, none⟩)] w fun e w' => e = .returned (.tuple #[]) ∧ ∃ own2 d2, DA w' B own2 a g d2 { m with f := upP m.f i ⟨[], (m.f i).lasts, true⟩ } ∧ (∀ k, k < w.heap.size → own2 k = own k) ∧ Ch (fun k => k = g ∨ own k = mark a i) w w' := by
  have hS := clear_any w B own a g d m h i hi
  clear h
  go_enter Try.func101, Try.ntmps101
  go_wp2_with fail
  refine hS.mono ?_
  rintro e w1 ⟨rfl, d1, hA, hc⟩
  go_wp2_with fail
  go_end0
  exact ⟨rfl, own, d1, hA, fun _ _ => rfl, hc.mono fun k _ e => Or.inl e⟩

theorem DA.alloc {w : World} {B : Nat} {own : Nat → Nat} {a g : Nat} {d : Dk} {m : PD} (h : DA w B own a g d m) (o : Obj) : DA (w.alloc o) B own a g d m :=
  h.ch (S := fun _ => False) (Ch.of_below ((Below.refl _ _).alloc (Nat.le_refl _) o) _) (fun e => e) (fun _ _ _ _ e => e) (fun _ _ e => e) (fun _ _ => rfl) (fun k hk => h.fr k (Nat.le_trans (by simp) hk))

/-- What a disk that is used so far may be: no more than so much, of each. -/
structure PD.few (m : PD) : Prop where
  told : ∀ i, i < 8 → (m.f i).told.length ≤ 549755813888
  lasts : ∀ i, i < 8 → (m.f i).lasts.length ≤ 549755813888
  keep : m.keep.length ≤ 549755813888
  left : m.left ≤ 9223372036854775807

theorem upP_few {m : PD} (h : m.few) (i : Nat) (x : PF) (hx : x.told.length ≤ 1099511627776) : ∀ j, j < 8 → (upP m.f i x j).told.length ≤ 1099511627776 := by
  intro j hj
  by_cases e : j = i
  · rw [e, upP_same]; exact hx
  · rw [upP_other _ _ e]; have := h.told j hj; omega

set_option maxRecDepth 20000 in
theorem Sync_ok (w : World) (B : Nat) (own : Nat → Nat) (a g : Nat) (d : Dk) (m : PD) (h : DA w B own a g d m) (hr : 0 < m.room) (hw : m.down = false) (hm : m.few) (i : Nat) (hi : i < 8) :
    Calls Try.prog 54 #[.pointer (some ⟨g, 0, none⟩), .int .i64 i] w fun e w' => e = .returned (.int .i64 (goneE (m.gone 1))) ∧ ∃ own2 d2, DA w' B own2 a g d2 (m.act 1 fun _ => upP m.f i ⟨(m.f i).told, (m.f i).told, false⟩) ∧ (∀ k, k < w.heap.size → own2 k = own k) ∧ Ch (fun k => k = g ∨ own k = mark a i) w w' := by
  have hF := file_ok w g d h.dc (by rw [h.room]; exact hr) (h.down.trans hw) i hi
  have hA1 := h.alloc (.cells #[.pointer (some ⟨g, 2 + i * 3, none⟩)] 93)
  have hbx : (w.alloc (.cells #[.pointer (some ⟨g, 2 + i * 3, none⟩)] 93)).cell? ⟨w.heap.size, 0, none⟩ = some (.pointer (some ⟨g, 2 + i * 3, none⟩)) := by simp
  have hne : w.heap.size ≠ g := Nat.ne_of_gt h.dc.lt
  have hsz : w.heap.size < (w.alloc (.cells #[.pointer (some ⟨g, 2 + i * 3, none⟩)] 93)).heap.size := by simp
  have hc0 : Ch (fun k => k = g ∨ own k = mark a i) w (w.alloc (.cells #[.pointer (some ⟨g, 2 + i * 3, none⟩)] 93)) := Ch.of_below ((Below.refl _ _).alloc (Nat.le_refl _) _) _
  have hact := act_any 80 cfSync #[.pointer (some ⟨w.heap.size, 0, none⟩)] (fun k => k = g ∨ own k = mark a i) _ B own a g d m hA1 (Or.inl rfl) 1 (fun _ => upP m.f i ⟨(m.f i).told, (m.f i).told, false⟩)
    (fun _ _ => upP_few hm i _ (by have := hm.told i hi; dsimp only; omega)) (by have := hm.keep; omega) hm.left (fun w1 d1 m1 n1 hA hf _ hc => by
      have := sync1_any w1 B own a g d1 m1 hA i hi n1 w.heap.size (by rw [hc.cell (p := ⟨w.heap.size, 0, none⟩) hsz hne]; exact hbx)
      rw [hf] at this
      exact this)
  clear hA1 h hbx
  go_enter Try.func54, Try.ntmps54
  go_wp2_with fail
  refine hF.mono ?_
  rintro e w1 ⟨rfl, rfl⟩
  go_wp2_with fail
  refine hact.mono ?_
  rintro e w2 ⟨rfl, own2, d2, hA2, ho2, hc2⟩
  go_wp2_with fail
  go_ret
  exact ⟨rfl, own2, d2, hA2, fun k hk => ho2 k (Nat.lt_trans hk hsz), hc0.trans hc2⟩

end Go.Proofs.Ytpjhadaiodnnaaa.M
