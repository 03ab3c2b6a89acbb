/-
  Own text: the example of the statements over disks.
-/
import Derived.Test.YtohmjpjjmhcjgaaDPub
import Derived.Lib.SlBytesConst
namespace Go.Proofs.Ytohmjpjjmhcjgaa.M
open Go.ChangeShapes Go.WideShapes Go.ChangeAt Go.RowKit

/-- A disk of which the first file alone has bytes. -/
def pdm (down : Bool) (t l : List Int) (left : Nat) : PD := ⟨100, down, fun i => if i = 0 then ⟨t, l, false⟩ else ⟨[], [], false⟩, left, []⟩

theorem pdm_new : pd0 100 = pdm false [] [] 0 := by
  unfold pd0 pdm
  congr 1
  funext i
  split <;> rfl

theorem pdm_f0 (down : Bool) (t l : List Int) (left : Nat) : (pdm down t l left).f 0 = ⟨t, l, false⟩ := rfl

theorem pdm_up (down : Bool) (t l t' l' : List Int) (left : Nat) : upP (pdm down t l left).f 0 ⟨t', l', false⟩ = (pdm down t' l' left).f := by
  funext i
  unfold upP pdm
  dsimp only
  by_cases h : i = 0
  · rw [if_pos h, if_pos h]
  · rw [if_neg h, if_neg h, if_neg h]

theorem act0 (m : PD) (n : Nat) (X : Nat → Nat → PF) (h : m.left = 0) : m.act n X = { m with f := X n } := if_pos h
theorem act1 (m : PD) (n : Nat) (X : Nat → Nat → PF) (h : m.left ≠ 0) (h2 : m.left ≤ n) : m.act n X = ({ m with f := X m.left } : PD).fall m.keep := (if_neg h).trans (if_pos h2)

theorem pdm_put (t l ys : List Int) (n : Nat) (hn : ys.length = n) : (pdm false t l 0).act n (fun k => upP (pdm false t l 0).f 0 { (pdm false t l 0).f 0 with told := ((pdm false t l 0).f 0).told ++ ys.take k }) = pdm false (t ++ ys) l 0 := by
  rw [act0 _ _ _ rfl]
  show (⟨100, false, upP (pdm false t l 0).f 0 ⟨t ++ ys.take n, l, false⟩, 0, []⟩ : PD) = _
  rw [pdm_up, List.take_of_length_le (by omega)]
  rfl

theorem pdm_sync (t l : List Int) : (pdm false t l 0).act 1 (fun _ => upP (pdm false t l 0).f 0 ⟨((pdm false t l 0).f 0).told, ((pdm false t l 0).f 0).told, false⟩) = pdm false t t 0 := by
  rw [act0 _ _ _ rfl]
  show (⟨100, false, upP (pdm false t l 0).f 0 ⟨t, t, false⟩, 0, []⟩ : PD) = _
  rw [pdm_up]
  rfl

theorem crash_nil (k : Int) : (⟨[], [], false⟩ : PF).crash k = ⟨[], [], false⟩ := by
  unfold PF.crash PF.rest
  dsimp only
  rw [List.take_nil]
  split <;> rfl

theorem pdm_fall (t l : List Int) (keep : List Int) (left : Nat) (down : Bool) (r : List Int) (h : (⟨t, l, false⟩ : PF).rest (keepAt keep 0) = r) : (pdm down t l left).fall keep = pdm true r r 0 := by
  unfold PD.fall
  have e : fallN (pdm down t l left).f keep 8 = (pdm true r r 0).f := by
    funext i
    unfold fallN pdm
    dsimp only
    by_cases h0 : i = 0
    · subst h0
      rw [if_pos (by decide), if_pos rfl, if_pos rfl]
      unfold PF.crash
      rw [h]
    · rw [if_neg h0, if_neg h0]
      split
      · exact crash_nil _
      · rfl
  rw [e]
  rfl

theorem pdm_few (down : Bool) (t l : List Int) (left : Nat) (ht : t.length ≤ 100) (hl : l.length ≤ 100) (hf : left ≤ 100) : (pdm down t l left).few := by
  refine ⟨fun i _ => ?_, fun i _ => ?_, Nat.zero_le _, by show left ≤ _; omega⟩
  · unfold pdm
    dsimp only
    split
    · dsimp only; omega
    · exact Nat.zero_le _
  · unfold pdm
    dsimp only
    split
    · dsimp only; omega
    · exact Nat.zero_le _

theorem pdm_used (down : Bool) (t l : List Int) (left : Nat) : (pdm down t l left).used = t.length := by
  unfold PD.used pdm
  simp

theorem pdm_struck (t : List Int) (ys : List Int) : (pdm false t t 1).act 2 (fun k => upP (pdm false t t 1).f 0 { (pdm false t t 1).f 0 with told := ((pdm false t t 1).f 0).told ++ ys.take k }) = pdm true t t 0 := by
  rw [act1 _ _ _ (by show (1 : Nat) ≠ 0; decide) (by show 1 ≤ 2; decide)]
  show (⟨100, false, upP (pdm false t t 1).f 0 ⟨t ++ ys.take 1, t, false⟩, 1, []⟩ : PD).fall [] = _
  rw [pdm_up]
  exact pdm_fall _ _ [] 1 false t rfl

theorem abc_str (p : Option Addr) (c : Nat) (w : World) (h : Rd .u8 w p 3 c [97, 98, 99]) : (convert 22 9 (.slice p 3 c)).run Try.prog w = .ok (.string ⟨#[97, 98, 99]⟩) w := by
  obtain ⟨b, o, rfl, hc⟩ := h.cells (by decide)
  have := run_convert_bytes_arg (P := Try.prog) w 22 5 Try.underlying22 Try.underlying5 b o 3 c [97, 98, 99] h.len hc 9 Try.underlying9
  rw [this]
  rfl

theorem rd_two (w : World) (x y : Int) : Rd .u8 (w.alloc (.cells #[.int .u8 x, .int .u8 y] 5 (2, 3))) (some ⟨w.heap.size, 0, none⟩) 2 2 [x, y] := by
  have hrow : (w.alloc (.cells #[.int .u8 x, .int .u8 y] 5 (2, 3))).heap[w.heap.size]? = some (.cells #[.int .u8 x, .int .u8 y] 5 (2, 3)) := heap_alloc_new _ _
  refine ⟨rfl, Nat.le_refl _, (fun e => by cases e), fun _ => ⟨_, 0, rfl, fun i hi => ?_⟩⟩
  unfold World.cell?
  dsimp only
  rw [hrow]
  match i, hi with
  | 0, _ => rfl
  | 1, _ => rfl

theorem rd_one (w : World) (x : Int) : Rd .i64 (w.alloc (.cells #[.int .i64 x] 3)) (some ⟨w.heap.size, 0, none⟩) 1 1 [x] := by
  refine ⟨rfl, Nat.le_refl _, (fun e => by cases e), fun _ => ⟨_, 0, rfl, fun i hi => ?_⟩⟩
  match i, hi with
  | 0, _ => simp

/-- Where the example is: a disk in block g, all else as it was. -/
structure At (w : World) (g : Nat) (m : PD) (V : World) (own : Nat → Nat) (d : Dk) : Prop where
  da : DA V g own 0 g d m
  ch : Ch (fun k => g ≤ k) w V
  low : ∀ k, k < g → own k = 0

theorem At.alloc {w : World} {g : Nat} {m : PD} {V : World} {own : Nat → Nat} {d : Dk} (h : At w g m V own d) (o : Obj) : At w g m (V.alloc o) own d :=
  ⟨h.da.alloc o, h.ch.trans (Ch.of_below ((Below.refl _ _).alloc (Nat.le_refl _) o) _), h.low⟩

theorem At.below {w : World} {g : Nat} {m : PD} {V V' : World} {own : Nat → Nat} {d : Dk} (h : At w g m V own d) (hb : Below V.heap.size V V') : At w g m V' own d :=
  ⟨h.da.below hb, h.ch.trans (Ch.of_below hb _), h.low⟩

theorem at_put (w : World) (g : Nat) (t l : List Int) (V : World) (own : Nat → Nat) (d : Dk) (h : At w g (pdm false t l 0) V own d) (ht : t.length ≤ 50) (hl : l.length ≤ 50) (x y : Int) :
    Calls Try.prog 11 #[.pointer (some ⟨g, 0, none⟩), .int .i64 0, .slice (some ⟨V.heap.size, 0, none⟩) 2 2] (V.alloc (.cells #[.int .u8 x, .int .u8 y] 5 (2, 3))) fun e w' => e = .returned (.int .i64 0) ∧ ∃ own2 d2, At w g (pdm false (t ++ [x, y]) l 0) w' own2 d2 := by
  have h2 := h.alloc (.cells #[.int .u8 x, .int .u8 y] 5 (2, 3))
  have hlt := h.da.dc.lt
  have hA := Append_ok _ g own 0 g d _ h2.da (by show 0 < 100; decide) rfl (pdm_few _ _ _ _ (by omega) (by omega) (by decide)) (by simp; omega) 0 (by decide) _ 2 2 [x, y] (rd_two V x y) (fun z e => by cases e; exact Nat.ne_of_gt hlt) (by decide) (by rw [pdm_used]; show _ ≤ 100; omega) (by show 100 ≤ _; decide)
  rw [pdm_put t l [x, y] 2 rfl] at hA
  refine hA.mono ?_
  rintro e w' ⟨rfl, own2, d2, hD, ho, hc⟩
  refine ⟨rfl, own2, d2, hD, h2.ch.trans (hc.mono fun k _ e => ?_), fun k hk => (ho k (Nat.lt_trans hk (by simp; omega))).trans (h.low k hk)⟩
  rcases e with e | e
  · rw [e]; exact Nat.le_refl _
  · rcases Nat.lt_or_ge k g with h3 | h3
    · rw [h.low k h3] at e; exact absurd e.symm (mark_pos _ _)
    · exact h3

theorem at_sync (w : World) (g : Nat) (t l : List Int) (V : World) (own : Nat → Nat) (d : Dk) (h : At w g (pdm false t l 0) V own d) (ht : t.length ≤ 50) (hl : l.length ≤ 50) :
    Calls Try.prog 12 #[.pointer (some ⟨g, 0, none⟩), .int .i64 0] V fun e w' => e = .returned (.int .i64 0) ∧ ∃ own2 d2, At w g (pdm false t t 0) w' own2 d2 := by
  have hlt := h.da.dc.lt
  have hA := Sync_ok V g own 0 g d _ h.da (by show 0 < 100; decide) rfl (pdm_few _ _ _ _ (by omega) (by omega) (by decide)) 0 (by decide)
  rw [pdm_sync] at hA
  refine hA.mono ?_
  rintro e w' ⟨rfl, own2, d2, hD, ho, hc⟩
  refine ⟨rfl, own2, d2, hD, h.ch.trans (hc.mono fun k _ e => ?_), fun k hk => (ho k (Nat.lt_trans hk hlt)).trans (h.low k hk)⟩
  rcases e with e | e
  · rw [e]; exact Nat.le_refl _
  · rcases Nat.lt_or_ge k g with h3 | h3
    · rw [h.low k h3] at e; exact absurd e.symm (mark_pos _ _)
    · exact h3

theorem at_struck (w : World) (g : Nat) (t : List Int) (V : World) (own : Nat → Nat) (d : Dk) (h : At w g (pdm false t t 1) V own d) (ht : t.length ≤ 50) (x y : Int) :
    Calls Try.prog 11 #[.pointer (some ⟨g, 0, none⟩), .int .i64 0, .slice (some ⟨V.heap.size, 0, none⟩) 2 2] (V.alloc (.cells #[.int .u8 x, .int .u8 y] 5 (2, 3))) fun e w' => e = .returned (.int .i64 50) ∧ ∃ own2 d2, At w g (pdm true t t 0) w' own2 d2 := by
  have h2 := h.alloc (.cells #[.int .u8 x, .int .u8 y] 5 (2, 3))
  have hlt := h.da.dc.lt
  have hA := Append_ok _ g own 0 g d _ h2.da (by show 0 < 100; decide) rfl (pdm_few _ _ _ _ (by omega) (by omega) (by decide)) (by simp; omega) 0 (by decide) _ 2 2 [x, y] (rd_two V x y) (fun z e => by cases e; exact Nat.ne_of_gt hlt) (by decide) (by rw [pdm_used]; show _ ≤ 100; omega) (by show 100 ≤ _; decide)
  rw [pdm_struck] at hA
  refine hA.mono ?_
  rintro e w' ⟨rfl, own2, d2, hD, ho, hc⟩
  refine ⟨rfl, own2, d2, hD, h2.ch.trans (hc.mono fun k _ e => ?_), fun k hk => (ho k (Nat.lt_trans hk (by simp; omega))).trans (h.low k hk)⟩
  rcases e with e | e
  · rw [e]; exact Nat.le_refl _
  · rcases Nat.lt_or_ge k g with h3 | h3
    · rw [h.low k h3] at e; exact absurd e.symm (mark_pos _ _)
    · exact h3

theorem at_crash (w : World) (g : Nat) (t l r : List Int) (V : World) (own : Nat → Nat) (d : Dk) (h : At w g (pdm false t l 0) V own d) (ht : t.length ≤ 50) (hl : l.length ≤ 50) (x : Int) (hx : (⟨t, l, false⟩ : PF).rest (keepAt [x] 0) = r) :
    Calls Try.prog 13 #[.pointer (some ⟨g, 0, none⟩), .slice (some ⟨V.heap.size, 0, none⟩) 1 1] (V.alloc (.cells #[.int .i64 x] 3)) fun e w' => e = .returned (.int .i64 0) ∧ ∃ d2, At w g (pdm true r r 0) w' own d2 := by
  have h2 := h.alloc (.cells #[.int .i64 x] 3)
  have hlt := h.da.dc.lt
  have hA := Crash_ok _ g own 0 g d _ h2.da (by show 0 < 100; decide) rfl (pdm_few _ _ _ _ (by omega) (by omega) (by decide)) _ 1 1 [x] (rd_one V x) (fun z e => by cases e; exact Nat.ne_of_gt hlt) (by decide)
  rw [pdm_fall t l [x] 0 false r hx] at hA
  refine hA.mono ?_
  rintro e w' ⟨rfl, d2, hD, hc⟩
  exact ⟨rfl, d2, hD, h2.ch.trans (hc.mono fun k _ e => by rw [e]; exact Nat.le_refl _), h.low⟩

theorem at_start (w : World) (g : Nat) (t l : List Int) (V : World) (own : Nat → Nat) (d : Dk) (h : At w g (pdm true t l 0) V own d) :
    Calls Try.prog 14 #[.pointer (some ⟨g, 0, none⟩)] V fun e w' => e = .returned (.int .i64 0) ∧ ∃ d2, At w g (pdm false t l 0) w' own d2 := by
  refine (Start_ok V g own 0 g d _ h.da (by show 0 < 100; decide)).mono ?_
  rintro e w' ⟨rfl, hD, hc⟩
  exact ⟨rfl, _, hD, h.ch.trans (hc.mono fun k _ e => by rw [e]; exact Nat.le_refl _), h.low⟩

theorem at_arm (w : World) (g : Nat) (t l : List Int) (V : World) (own : Nat → Nat) (d : Dk) (h : At w g (pdm false t l 0) V own d) :
    Calls Try.prog 15 #[.pointer (some ⟨g, 0, none⟩), .int .i64 1, .slice none 0 0] V fun e w' => e = .returned (.int .i64 0) ∧ ∃ d2, At w g (pdm false t l 1) w' own d2 := by
  refine (Arm_ok V g own 0 g d _ h.da (by show 0 < 100; decide) rfl 1 (Nat.le_refl _) none 0 0 [] ⟨rfl, Nat.le_refl _, fun _ => rfl, fun h => absurd h (Nat.lt_irrefl _)⟩ (by decide)).mono ?_
  rintro e w' ⟨rfl, d2, hD, hc⟩
  exact ⟨rfl, d2, hD, h.ch.trans (hc.mono fun k _ e => by rw [e]; exact Nat.le_refl _), h.low⟩

theorem at_read (w : World) (g : Nat) (V : World) (own : Nat → Nat) (d : Dk) (h : At w g (pdm false [97, 98, 99] [97, 98, 99] 0) V own d) :
    Calls Try.prog 6 #[.pointer (some ⟨g, 0, none⟩), .int .i64 0] V fun e w' => ∃ p' c', e = .returned (.tuple #[.slice p' 3 c', .int .i64 0]) ∧ Rd .u8 w' p' 3 c' [97, 98, 99] ∧ At w g (pdm false [97, 98, 99] [97, 98, 99] 0) w' own d := by
  refine (Read_ok V g own 0 g d _ h.da (by show 0 < 100; decide) rfl (pdm_few _ _ _ _ (by decide) (by decide) (by decide)) 0 (by decide)).mono ?_
  rintro e w' ⟨p', c', rfl, h1, h2, _⟩
  exact ⟨p', c', rfl, h1, h.below h2⟩

set_option maxRecDepth 20000 in
set_option maxHeartbeats 1000000 in
theorem awake_any (w : World) : Calls Try.prog 5 #[] w fun e w' => e = .returned (.bool true) ∧ Below w.heap.size w w' := by
  have hN := New_ok w 0 100 (by decide) (by decide)
  rw [pdm_new] at hN
  have hcv := fun (w : World) (C : Array Value) (n c : Nat) => Lib.run_convert_bytes_const (P := Try.prog) w 22 5 C n c Try.underlying22 Try.underlying5
  go_enter Try.func5, Try.ntmps5
  go_wp2_with fail
  refine hN.mono ?_
  rintro e w1 ⟨rfl, h1, hb1⟩
  have a1 : At w w.heap.size (pdm false [] [] 0) w1 (fun _ => 0) (dk0 100) := ⟨h1, ⟨hb1.os, hb1.tape, hb1.output, hb1.size, fun k hk _ => hb1.block k hk⟩, fun _ _ => rfl⟩
  have HF : Hid (∀ V, Ch (fun k => w.heap.size ≤ k) w V → Below w.heap.size w V) := fun V hc => hc.below (Nat.le_refl _) (fun k e => e)
  clear h1 hb1 hN
  generalize hg : w.heap.size = g at *
  have HG : Hid (w.heap.size = g) := hg
  clear hg
  go_wp2_with fail
  refine (at_put w g _ _ w1 _ _ a1 (by decide) (by decide) 97 98).mono ?_
  rintro e w2 ⟨rfl, o2, d2, a2⟩
  clear a1
  go_wp2_with fail
  refine (at_sync w g _ _ w2 _ _ a2 (by decide) (by decide)).mono ?_
  rintro e w3 ⟨rfl, o3, d3, a3⟩
  clear a2
  go_wp2_with fail
  refine (at_put w g _ _ w3 _ _ a3 (by decide) (by decide) 99 100).mono ?_
  rintro e w4 ⟨rfl, o4, d4, a4⟩
  clear a3
  go_wp2_with fail
  refine (at_crash w g _ _ [97, 98, 99] w4 _ _ a4 (by decide) (by decide) 1 (by decide)).mono ?_
  rintro e w5 ⟨rfl, d5, a5⟩
  clear a4
  go_wp2_with fail
  refine (at_start w g _ _ w5 _ _ a5).mono ?_
  rintro e w6 ⟨rfl, d6, a6⟩
  clear a5
  go_wp2_with fail
  refine (at_read w g w6 _ _ a6).mono ?_
  rintro e w7 ⟨p7, c7, rfl, r7, a7⟩
  have s7 := abc_str p7 c7 w7 r7
  clear a6 r7
  go_wp2_with fail
  refine (at_arm w g _ _ w7 _ _ a7).mono ?_
  rintro e w8 ⟨rfl, d8, a8⟩
  clear a7 s7
  go_wp2_with fail
  refine (at_struck w g _ w8 _ _ a8 (by decide) 120 121).mono ?_
  rintro e w9 ⟨rfl, o9, d9, a9⟩
  clear a8
  go_wp2_with fail
  refine (at_start w g _ _ w9 _ _ a9).mono ?_
  rintro e wa ⟨rfl, da, aa⟩
  clear a9
  go_wp2_with fail
  refine (at_read w g wa _ _ aa).mono ?_
  rintro e wb ⟨pb, cb, rfl, rb, ab⟩
  have sb := abc_str pb cb wb rb
  clear aa rb
  go_wp2_with fail
  refine (Append_none wb g _ 0 g _ _ ab.da (by show 0 < 100; decide) rfl 8 (Or.inr (by decide)) none 0 0).mono ?_
  rintro e wc ⟨rfl, hbc⟩
  have ac := ab.below hbc
  go_wp2_with fail
  go_ret
  exact ⟨rfl, by rw [HG.out]; exact HF.out _ ac.ch⟩

end Go.Proofs.Ytohmjpjjmhcjgaa.M
