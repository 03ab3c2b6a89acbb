/-
  Own text: the example that the statements about links call.
-/
import Derived.Test.YtmnipfdcbmamnaaNTake
import Derived.Lib.SlBytesConst
namespace Go.Proofs.Ytmnipfdcbmamnaa.M
open Go.ChangeShapes Go.WideShapes Go.ChangeAt Go.RowKit Go.ChangeMaps Go.MapKept Go.Maps

variable {Z : Nat → Prop}

/-- A Net whose link 0 to 1 has these. -/
def Aw (Z : Nat → Prop) (B g b n side : Nat) (l : List ByteArray) (w : World) : Prop := ∃ N R, NB Z w B g b n side 0 N R ∧ N 0 1 = l

theorem Aw.below {B g b n side : Nat} {l : List ByteArray} {w w' : World} (h : Aw Z B g b n side l w) (hb : Below w.heap.size w w') : Aw Z B g b n side l w' := by
  obtain ⟨N, R, h, e⟩ := h
  exact ⟨N, R, h.below hb, e⟩

theorem wf0 : Wf 0 := by unfold Wf; decide
theorem wf1 : Wf 1 := by unfold Wf; decide

theorem Aw.lt {B g b n side : Nat} {l : List ByteArray} {w : World} (h : Aw Z B g b n side l w) : g < w.heap.size ∧ b < w.heap.size ∧ B ≤ w.heap.size := by
  obtain ⟨N, R, h, e⟩ := h
  exact ⟨h.blk.lt, h.map.lt, Nat.le_of_lt (Nat.lt_of_le_of_lt h.lo.1 h.blk.lt)⟩

theorem upN_same (N : Int → Int → List ByteArray) (x y : Int) (l : List ByteArray) : upN N x y l x y = l := if_pos ⟨rfl, rfl⟩

theorem Aw.send {B g b n side : Nat} {l : List ByteArray} {w : World} (h : Aw Z B g b n side l w) (hn : n ≤ maxLen) (hl : l.length < 8) {p : Option Addr} {m c : Nat} {xs : List Int} (hr : Rd .u8 w p m c xs) (hm8 : m ≤ 8192) :
    Calls Try.prog 24 #[.pointer (some ⟨g, 0, none⟩), .agg #[.int .i64 0, .int .i64 1], .slice p m c] w fun o w' => o = .returned (.int .i64 0) ∧ Aw Z B g b (n + 1) side (l ++ [strOfNums xs]) w' ∧ BelF Z B g b w w' := by
  obtain ⟨N, R, h, rfl⟩ := h
  refine (Send_ok h hn wf0 wf1 rfl hl hr hm8).mono ?_
  rintro o w' ⟨rfl, ⟨v, h2⟩, h3⟩
  exact ⟨rfl, ⟨_, _, h2, upN_same _ _ _ _⟩, h3⟩

theorem Aw.take {B g b n side : Nat} {l : List ByteArray} {w : World} (h : Aw Z B g b n side l w) (hsd : side < 18446744073709551616) (i : Nat) (hi : i < l.length) (hl : l.length ≤ 1000) :
    Calls Try.prog 25 #[.pointer (some ⟨g, 0, none⟩), .agg #[.int .i64 0, .int .i64 1], .int .i64 i] w fun o w' => TookR w.heap.size w' o side 0 1 (l.getD i ByteArray.empty) ∧ Aw Z B g b (n + 1) side (l.eraseIdx i) w' ∧ BelF Z B g b w w' := by
  obtain ⟨N, R, h, rfl⟩ := h
  refine (Take_ok h hsd wf0 wf1 i hi hl rfl).mono ?_
  rintro o w' ⟨h1, ⟨v, h2⟩, h3⟩
  exact ⟨h1, ⟨_, _, h2, upN_same _ _ _ _⟩, h3⟩

theorem Aw.wall {B g b n side : Nat} {l : List ByteArray} {w : World} (h : Aw Z B g b n side l w) (s : Nat) :
    Calls Try.prog 26 #[.pointer (some ⟨g, 0, none⟩), .int .u64 s] w fun o w' => o = .returned (.int .i64 0) ∧ Aw Z B g b n s l w' ∧ BelF Z B g b w w' := by
  obtain ⟨N, R, h, rfl⟩ := h
  refine (Wall_any h s).mono ?_
  rintro o w' ⟨h1, h2, h3⟩
  exact ⟨h1, ⟨_, _, h2, rfl⟩, h3⟩

theorem Aw.len {B g b n side : Nat} {l : List ByteArray} {w : World} (h : Aw Z B g b n side l w) :
    Calls Try.prog 13 #[.pointer (some ⟨g, 0, none⟩), .agg #[.int .i64 0, .int .i64 1]] w fun o w' => o = .returned (.int .i64 l.length) ∧ Below w.heap.size w w' := by
  obtain ⟨N, R, h, rfl⟩ := h
  exact nLen_any h wf0 wf1

theorem Aw.len0 {B g b n side : Nat} {l : List ByteArray} {w : World} (h : Aw Z B g b n side l w) (hl : l = []) :
    Calls Try.prog 13 #[.pointer (some ⟨g, 0, none⟩), .agg #[.int .i64 0, .int .i64 1]] w fun o w' => o = .returned (.int .i64 0) ∧ Below w.heap.size w w' := by
  subst hl
  exact h.len

theorem Aw.bad {B g b n side : Nat} {l : List ByteArray} {w : World} (h : Aw Z B g b n side l w) (v : Value) :
    Calls Try.prog 24 #[.pointer (some ⟨g, 0, none⟩), .agg #[.int .i64 0, .int .i64 0], v] w fun o w' => o = .returned (.int .i64 40) ∧ Below w.heap.size w w' := by
  obtain ⟨N, R, h, rfl⟩ := h
  exact Send_link h rfl v

theorem New_aw (w : World) (hZ : ∀ k, Z k → k < w.heap.size) : Calls Try.prog 8 #[] w fun o w' => ∃ g b, o = .returned (.pointer (some ⟨g, 0, none⟩)) ∧ Aw Z w.heap.size g b 0 0 [] w' ∧ Below w.heap.size w w' := by
  refine (New_any w hZ).mono ?_
  rintro o w' ⟨g, b, rfl, h, hb⟩
  exact ⟨g, b, rfl, ⟨_, _, h, rfl⟩, hb⟩

theorem rdB (w : World) (x : Int) (t : TypeId) : Rd .u8 (w.alloc (.cells #[.int .u8 x] t (1, 2))) (some ⟨w.heap.size, 0, none⟩) 1 1 [x] := by
  have hrow : (w.alloc (.cells #[.int .u8 x] t (1, 2))).heap[w.heap.size]? = some (.cells #[.int .u8 x] t (1, 2)) := heap_alloc_new _ _
  refine ⟨rfl, Nat.le_refl _, (fun e => by cases e), fun _ => ⟨_, 0, rfl, fun i hi => ?_⟩⟩
  unfold World.cell?
  dsimp only
  rw [hrow]
  match i, hi with
  | 0, _ => rfl

theorem RowU.below {B0 : Nat} {w w' : World} {p : Option Addr} (h : RowU B0 w p) (hb : Below w.heap.size w w') : RowU B0 w' p := fun a ha => by
  obtain ⟨h0, cs, f, e, hj⟩ := h a ha
  exact ⟨h0, cs, f, (hb.block _ (Array.getElem?_eq_some_iff.1 e).1).trans e, hj⟩

theorem Aw.rd {B g b n side : Nat} {l : List ByteArray} {w w' : World} (h : Aw Z B g b n side l w) (hF : BelF Z B g b w w') {p : Option Addr} {m c : Nat} {xs : List Int} (hr : Rd .u8 w p m c xs) {B0 : Nat} (hu : RowU B0 w p) : Rd .u8 w' p m c xs ∧ RowU B0 w' p := by
  obtain ⟨N, R, h, _⟩ := h
  exact BelF.rd h hF hr hu

theorem rdI (w : World) (x : Int) (t : TypeId) : Rd .i64 (w.alloc (.cells #[.int .i64 x] t)) (some ⟨w.heap.size, 0, none⟩) 1 1 [x] := by
  refine ⟨rfl, Nat.le_refl _, (fun e => by cases e), fun _ => ⟨_, 0, rfl, fun i hi => ?_⟩⟩
  match i, hi with
  | 0, _ => simp

set_option maxRecDepth 20000 in
set_option maxHeartbeats 4000000 in
theorem awake_any (w : World) : Calls Try.prog 7 #[] w fun o w' => o = .returned (.bool true) ∧ Below w.heap.size w w' := by
  have hN := New_aw (Z := fun _ => False) w (fun _ h => h.elim)
  go_enter Try.func7, Try.ntmps7
  go_wp2_with fail
  refine hN.mono ?_
  rintro o w1 ⟨g, b, rfl, hA, hb⟩
  clear hN
  have hlt := hA.lt
  have hB := hlt.2.2
  generalize hgB : w.heap.size = B at *
  have HG : Hid (w.heap.size = B) := hgB
  clear hgB
  have hcv := fun (w : World) (C : Array Value) (n c : Nat) => Lib.run_convert_bytes_const (P := Try.prog) w 34 5 C n c Try.underlying34 Try.underlying5
  have hb0 := below_alloc w1 (.cells #[.int .i64 0, .int .i64 1] 33)
  have hL := At.new 33 w1 #[.int .i64 0, .int .i64 1]
  have hA1 := hA.below hb0
  have hB0 := hb.trans (hb0.mono hB)
  have hsz : (w1.alloc (.cells #[.int .i64 0, .int .i64 1] 33)).heap.size = w1.heap.size + 1 := by simp
  have hBs0 : B ≤ (w1.alloc (.cells #[.int .i64 0, .int .i64 1] 33)).heap.size := by rw [hsz]; omega
  have hr1 := rdB (w1.alloc (.cells #[.int .i64 0, .int .i64 1] 33)) 97 5
  have hb1 := below_alloc (w1.alloc (.cells #[.int .i64 0, .int .i64 1] 33)) (.cells #[.int .u8 97] 5 (1, 2))
  have hcv1 := hcv (w1.alloc (.cells #[.int .i64 0, .int .i64 1] 33)) #[.int .u8 97] 1 1
  have hA2 := hA1.below hb1
  have hL2 := hL.below hb1
  have hB2 := hB0.trans (hb1.mono hBs0)
  have hBs2 := Nat.le_trans hBs0 hb1.size
  rw [hsz] at hr1 hcv1
  have hc1 := hA2.send (by decide) (by decide) hr1 (by decide)
  have hg : w1.heap.size ≠ g ∧ w1.heap.size ≠ b := ⟨Nat.ne_of_gt hlt.1, Nat.ne_of_gt hlt.2.1⟩
  clear hA hA1 hb hb0 hL hB0 hr1 hb1 hsz hBs0
  go_wp2_with fail
  generalize hV : ((w1.alloc (Obj.cells #[.int .i64 0, .int .i64 1] 33)).alloc (.cells #[.int .u8 97] 5 (1, 2))) = V at *
  clear hV hcv1 hA2
  generalize w1.heap.size = gx at *
  refine hc1.mono ?_
  rintro o w2 ⟨rfl, hA, hF⟩
  have hL := hF.at hL2 hg.1 hg.2 (by decide)
  have hB3 := hB2.trans hF.bel
  have hBs3 := Nat.le_trans hBs2 hF.sz
  clear hc1 hF hL2 hB2 hBs2
  -- the second Send
  have hr1 := rdB w2 98 5
  have hb1 := below_alloc w2 (.cells #[.int .u8 98] 5 (1, 2))
  have hcv1 := hcv w2 #[.int .u8 98] 1 1
  have hA2 := hA.below hb1
  have hL2 := hL.below hb1
  have hB2 := hB3.trans (hb1.mono hBs3)
  have hBs2 := Nat.le_trans hBs3 hb1.size
  have hc1 := hA2.send (by decide) (by decide) hr1 (by decide)
  obtain ⟨a0, a1⟩ := hL.two
  clear hA hb1 hL hB3 hBs3 hr1
  go_wp2_with fail
  refine hc1.mono ?_
  rintro o w3 ⟨rfl, hA, hF⟩
  have hL := hF.at hL2 hg.1 hg.2 (by decide)
  have hB3 := hB2.trans hF.bel
  have hBs3 := Nat.le_trans hBs2 hF.sz
  clear hc1 hF hL2 hB2 hBs2 hcv1 hcv hA2 a0 a1
  -- the first Take
  have hc1 := hA.take (by decide) 1 (by decide) (by decide)
  obtain ⟨a0, a1⟩ := hL.two
  go_wp2_with fail
  refine hc1.mono ?_
  rintro o w4 ⟨⟨p, m, c, rfl, hr, hu⟩, hA4, hF⟩
  rw [if_pos (by decide), show numsOf (List.getD ([] ++ [strOfNums [97]] ++ [strOfNums [98]]) 1 ByteArray.empty) = [98] from rfl] at hr
  have hL4 := hF.at hL hg.1 hg.2 (by decide)
  have hB4 := hB3.trans hF.bel
  have hBs4 := Nat.le_trans hBs3 hF.sz
  clear hc1 hF hL hB3 hBs3 hA a0 a1
  rw [show opn 0 0 1 = true by decide]
  obtain ⟨a0, a1⟩ := hL4.two
  have hm : m = 1 := hr.len.symm
  subst hm
  have hof := of_any (some ⟨w4.heap.size, 0, none⟩) 1 1 [1] (w4.alloc (.cells #[.int .i64 1] 3)) (rdI w4 1 3) (by decide)
  go_wp2_with fail
  refine hof.mono ?_
  rintro o w5 ⟨rfl, hw⟩
  clear hof a0 a1
  rw [show ofN [1] = 2 from rfl]
  have hb5 := below_alloc w4 (.cells #[.int .i64 1] 3)
  rw [← hw] at hb5
  have hA5 := hA4.below hb5
  have hL5 := hL4.below hb5
  have hB5 := hB4.trans (hb5.mono hBs4)
  have hBs5 := Nat.le_trans hBs4 hb5.size
  have hr5 := hr.below hb5
  have hu5 := hu.below hb5
  clear hw hb5 hA4 hL4 hB4 hBs4 hr hu
  -- the wall
  have hc1 := hA5.wall 2
  go_wp2_with fail
  refine hc1.mono ?_
  rintro o w6 ⟨rfl, hA6, hF⟩
  have hL6 := hF.at hL5 hg.1 hg.2 (by decide)
  obtain ⟨hr6, hu6⟩ := hA5.rd hF hr5 hu5
  have hB6 := hB5.trans hF.bel
  have hBs6 := Nat.le_trans hBs5 hF.sz
  clear hc1 hF hA5 hL5 hB5 hBs5 hr5 hu5
  -- the second Take
  have hc1 := hA6.take (by decide) 0 (by decide) (by decide)
  obtain ⟨a0, a1⟩ := hL6.two
  go_wp2_with fail
  refine hc1.mono ?_
  rintro o w7 ⟨⟨p7, m7, c7, rfl, _, _⟩, hA7, hF⟩
  have hL7 := hF.at hL6 hg.1 hg.2 (by decide)
  obtain ⟨hr7, hu7⟩ := hA6.rd hF hr6 hu6
  have hB7 := hB6.trans hF.bel
  have hBs7 := Nat.le_trans hBs6 hF.sz
  clear hc1 hF hL6 hB6 hBs6 hA6 a0 a1 hr6 hu6
  rw [show opn 2 0 1 = false by decide]
  obtain ⟨a0, a1⟩ := hL7.two
  have hs7 := hr7.str
  rw [show strOfNums [98] = ⟨#[98]⟩ from rfl] at hs7
  have hle := hA7.len0 rfl
  clear hr7 hu7
  go_wp2_with fail
  refine hle.mono ?_
  rintro o w8 ⟨rfl, hb8⟩
  have hA8 := hA7.below hb8
  have hB8 := hB7.trans (hb8.mono hBs7)
  have hBs8 := Nat.le_trans hBs7 hb8.size
  clear hle a0 a1 hL7 hs7 hA7 hB7
  have hbd := hA8.bad (.slice none 0 0)
  go_wp2_with fail
  refine hbd.mono ?_
  rintro o w9 ⟨rfl, hb9⟩
  have hB9 := hB8.trans (hb9.mono hBs8)
  clear hbd hA8
  go_wp2_with fail
  go_ret
  exact ⟨rfl, by rw [HG.out]; exact hB9⟩

end Go.Proofs.Ytmnipfdcbmamnaa.M
