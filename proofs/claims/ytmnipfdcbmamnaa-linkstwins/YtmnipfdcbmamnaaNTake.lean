/-
  Own text: contracts of links' Wall and Take, of mask.Of of one.
-/
import Derived.Test.YtmnipfdcbmamnaaNSend
import Derived.Lib.ConvBytes
namespace Go.Proofs.Ytmnipfdcbmamnaa.M
open Go.ChangeShapes Go.WideShapes Go.ChangeAt Go.RowKit Go.ChangeMaps Go.MapKept Go.Maps

variable {Z : Nat → Prop}

theorem NB.ex {w w' : World} {B g b n side : Nat} {lost : Int} {N : Int → Int → List ByteArray} {R : Int → Int → Value} {x : Nat} (h : NB Z w B g b n side lost N R) (he : Ex x w w') (hg : g ≠ x) (hb : b ≠ x) (hr : ∀ a c, N a c ≠ [] → (R a c).ownBlock ≠ some x) : NB Z w' B g b n side lost N R :=
  ⟨h.blk.ex he hg, h.map.kept (he.block b h.map.lt hb), fun a c hn => ownsRow_ex (h.rows a c hn) he (hr a c hn), h.apart, h.ne, h.off, h.lo, h.zz.mono he.size⟩

theorem NB.side {w : World} {B g b n side : Nat} {lost : Int} {N : Int → Int → List ByteArray} {R : Int → Int → Value} (h : NB Z w B g b n side lost N R) (s : Nat) : NB Z (w.setCell ⟨g, 1, none⟩ (.int .u64 s)) B g b n s lost N R := by
  have he : Ex g w (w.setCell ⟨g, 1, none⟩ (.int .u64 s)) := (Ex.refl g w).setCell 1 _
  have hA : At 68 (w.setCell ⟨g, 1, none⟩ (.int .u64 s)) g #[.map (some b), .int .u64 s, .int .i64 lost] := heap_setCell_same w g 1 _ _ _ h.blk
  exact ⟨hA, h.map.kept (he.block b h.map.lt h.ne), fun a c hn => ownsRow_ex (h.rows a c hn) he (h.off a c hn).1, h.apart, h.ne, h.off, h.lo, h.zz.mono he.size⟩

set_option maxRecDepth 20000 in
set_option maxHeartbeats 2000000 in
theorem Wall_any {w : World} {B g b n side : Nat} {lost : Int} {N : Int → Int → List ByteArray} {R : Int → Int → Value} (h : NB Z w B g b n side lost N R) (s : Nat) :
    Calls Try.prog 26 #[.pointer (some ⟨g, 0, none⟩), .int .u64 s] w fun o w' => o = .returned (.int .i64 0) ∧ NB Z w' B g b n s lost N R ∧ BelF Z B g b w w' := by
  have hm := nmade_yes h
  have hs := h.side s
  have hb : BelF Z B g b w _ := BelF.exg ((Ex.refl g w).setCell 1 (.int .u64 s)) h.lo.1 h.blk.lt h.zz.2.1.1
  obtain ⟨q0, q1, q2⟩ := h.blk.three
  have qf := h.blk.free 1
  clear h
  go_enter Try.func26, Try.ntmps26
  go_wp2_with fail
  refine hm.mono ?_
  rintro o w1 ⟨rfl, hw⟩
  subst hw
  clear hm
  go_wp2_with fail
  go_ret
  exact ⟨rfl, hs, hb⟩

/-- The set of numbers. -/
def ofN (l : List Int) : Nat := l.foldl (fun s n => s ||| bitN n) 0

theorem ofN_snoc {l : List Int} {k : Nat} (h : k < l.length) : ofN (l.take (k + 1)) = ofN (l.take k) ||| bitN (l.getD k 0) := by
  unfold ofN
  rw [take_snoc h, List.foldl_append]
  rfl

theorem ofN_lt (l : List Int) : ofN l < 18446744073709551616 := by
  have key : ∀ (l : List Int) (s : Nat), s < 18446744073709551616 → l.foldl (fun s n => s ||| bitN n) s < 18446744073709551616 := by
    intro l
    induction l with
    | nil => intro s h; exact h
    | cons x r ih => intro s h; exact ih _ (or_lt64 h (bitN_lt x))
  exact key l 0 (by decide)

set_option maxRecDepth 20000 in
theorem of_any (p : Option Addr) (n c : Nat) (ls : List Int) (w : World) (hr : Rd .i64 w p n c ls) (hn : n ≤ 1099511627776) :
    Calls Try.prog 27 #[.slice p n c] w fun e w' => e = .returned (.int .u64 (ofN ls)) ∧ w' = w := by
  have hxl := hr.len
  go_enter Try.func27, Try.ntmps27
  go_wp2
  go_loop [3, 8] (fun v i => ∃ k : Nat, k ≤ n ∧ i = .int .i64 k ∧ v = .int .u64 (ofN (ls.take k))) (fun _ i => n - (intOf i).toNat)
  case atStart => exact ⟨0, Nat.zero_le _, rfl, rfl⟩
  case round =>
    obtain ⟨k, hk, rfl, rfl⟩ := hrel
    by_cases h : k < n
    · obtain ⟨b, o, rfl, hc⟩ := hr.cells (by omega)
      have hcx := hc k h
      have HS : Hid (ofN (ls.take (k + 1)) = ofN (ls.take k) ||| bitN (ls.getD k 0)) := ofN_snoc (by omega)
      have hor := u64_or_nat _ _ (ofN_lt (ls.take k)) (bitN_lt (ls.getD k 0))
      have hB := bit_any (ls.getD k 0) w
      clear hc hr hxl
      generalize ofN (ls.take k) = s at HS hor
      generalize bitN (ls.getD k 0) = z2 at HS hor hB
      generalize ls.getD k 0 = z at hcx hB
      go_wp2_with (go_at_call 50; refine hB.mono ?_; rintro e w1 ⟨rfl, hw⟩; subst hw)
      go_round
      case rel => exact ⟨k + 1, by omega, by go_num, by rw [HS.out]⟩
      case measure => simp [intOf]; omega
    · obtain rfl : k = n := by omega
      have e1 : ls.take k = ls := List.take_of_length_le (by omega)
      rw [e1]
      clear hr
      go_wp2
      go_ret
      exact ⟨rfl, rfl⟩

/-- A text's bytes. -/
def numsOf (s : ByteArray) : List Int := s.data.toList.map fun c => (c.toNat : Int)

/-- Does no wall stand between? -/
def opn (s : Nat) (x y : Int) : Bool := hasN s x == hasN s y

/-- A slice of bytes, in a block of bytes. -/
def RowU (B0 : Nat) (w : World) (p : Option Addr) : Prop := ∀ a, p = some a → B0 ≤ a.block ∧ ∃ cs f, w.heap[a.block]? = some (.cells cs 5 f) ∧ ∀ j, j < cs.size → ¬ (f.1 ≤ j ∧ j < f.2)

theorem RowU.low {B0 B1 : Nat} {w : World} {p : Option Addr} (h : RowU B1 w p) (hl : B0 ≤ B1) : RowU B0 w p := fun a e => ⟨Nat.le_trans hl (h a e).1, (h a e).2⟩

/-- What a Take of this message answers. -/
def TookR (B0 : Nat) (w' : World) (o : Ending) (s : Nat) (x y : Int) (msg : ByteArray) : Prop := ∃ p m c, o = .returned (.tuple #[.slice p m c, .bool (opn s x y), .int .i64 0]) ∧ Rd .u8 w' p m c (if opn s x y then numsOf msg else []) ∧ RowU B0 w' p

theorem conv_back (w : World) (s : ByteArray) : ∃ c w', (convert 9 34 (.string s)).run Try.prog w = .ok (.slice (some ⟨w.heap.size, 0, none⟩) s.size c) w' ∧ Rd .u8 w' (some ⟨w.heap.size, 0, none⟩) s.size c (numsOf s) ∧ Below w.heap.size w w' ∧ RowU w.heap.size w' (some ⟨w.heap.size, 0, none⟩) := by
  refine ⟨_, _, Lib.run_convert_string_bytes (P := Try.prog) w 9 34 5 s Try.underlying9 Try.underlying34 Try.underlying5, ⟨?_, ?_, (fun e => by cases e), fun _ => ⟨_, 0, rfl, fun i hi => ?_⟩⟩, ?_, ?_⟩
  · unfold numsOf; rw [List.length_map]; simp
  · exact grownCap_ge _ _ _ _
  · rw [Nat.zero_add, Lib.bytesWorld_cell w _ s i hi]
    unfold numsOf
    have hi' : i < s.data.toList.length := by simpa using hi
    rw [List.getD_eq_getElem?_getD, List.getD_eq_getElem?_getD, List.getElem?_map, List.getElem?_eq_getElem hi']
    rfl
  · exact ⟨rfl, rfl, rfl, by rw [Lib.bytesWorld_size]; omega, fun k hk => Lib.bytesWorld_at_old w _ s k hk⟩
  · intro a ha
    cases ha
    exact ⟨Nat.le_refl _, _, _, Lib.bytesWorld_at_new w _ s, fun j hj h => by have := h.1; omega⟩

set_option maxRecDepth 20000 in
set_option linter.unusedSimpArgs false in
set_option maxHeartbeats 4000000 in
/-- A Take of what is there. -/
theorem Take_ok {w : World} {B g b n side : Nat} {lost : Int} {N : Int → Int → List ByteArray} {R : Int → Int → Value} (h : NB Z w B g b n side lost N R) (hsd : side < 18446744073709551616) {x y : Int} (hx : Wf x) (hy : Wf y) (i : Nat) (hi : i < (N x y).length) (hl8 : (N x y).length ≤ 1000) {msg : ByteArray} (hmsg : (N x y).getD i ByteArray.empty = msg) :
    Calls Try.prog 25 #[.pointer (some ⟨g, 0, none⟩), .agg #[.int .i64 x, .int .i64 y], .int .i64 i] w fun o w' =>
      TookR w.heap.size w' o side x y msg ∧
      (∃ v, NB Z w' B g b (n + 1) side lost (upN N x y ((N x y).eraseIdx i)) (upR R x y v)) ∧ BelF Z B g b w w' := by
  have hba := below_alloc w (.cells #[.int .i64 x, .int .i64 y] 33)
  have hA := At.new 33 w #[.int .i64 x, .int .i64 y]
  have hN := h.below hba
  have hBw : B ≤ w.heap.size := Nat.le_of_lt (Nat.lt_of_le_of_lt h.lo.1 h.blk.lt)
  have hgxg : w.heap.size ≠ g := Nat.ne_of_gt h.blk.lt
  have hgxb : w.heap.size ≠ b := Nat.ne_of_gt h.map.lt
  obtain ⟨a0, a1⟩ := hA.two
  have hf := nfind_any hN hx hy (i : Int)
  have hfr : findR (N x y) (i : Int) = ((N x y).getD i ByteArray.empty, 0) := by
    unfold findR
    rw [if_pos ⟨by omega, by omega⟩]
    rfl
  rw [hfr, hmsg] at hf
  clear hfr h hmsg
  go_enter Try.func25, Try.ntmps25
  go_wp2_with fail
  refine hf.mono ?_
  rintro o w1 ⟨rfl, hw⟩
  clear hf a0 a1
  have hb1 := hba.trans (hw.mono hba.size)
  have hN1 := hN.below hw
  have hA1 := hA.below hw
  obtain ⟨a0, a1⟩ := hA1.two
  have hdr := ndrop_any hN1 hx hy i hi hl8
  have hB1 : BelF Z B g b w w1 := BelF.ofB hb1 hBw
  clear hN hA hw hba
  go_wp2_with fail
  refine hdr.mono ?_
  rintro o w2 ⟨rfl, ⟨v, hNz⟩, hw2⟩
  have hA2 := hw2.at hA1 hgxg hgxb (by decide)
  have hB2 := hB1.trans hw2
  have hBs2 : B ≤ w2.heap.size := Nat.le_trans hBw hB2.sz
  clear hdr a0 a1 hB1 hb1 hA1 hw2
  generalize w.heap.size = gx at *
  go_wp2_with fail
  have hS2 : Bl w2 w2.drew := (Below.refl _ _).drew
  refine wp_region_det [0, 1, 2, 3, 4, 5, 6, 7, 8, 9, 10, 11, 12, 13, 14] (fun W => At 68 W g #[.map (some b), .int .u64 side, .int .i64 lost] ∧ At 33 W gx #[.int .i64 x, .int .i64 y]) (Bl w2) (by kernel_rfl) hS2 ?_
  refine wpDet_take ?vT0 (Bl.stays w2) (fun W h => ⟨hNz.blk.below h, hA2.below h⟩) (i := 0) rfl (by kernel_rfl) (by kernel_rfl) (by kernel_rfl) (by kernel_rfl) (fun _ _ _ h => h) (Gives.value (by rfl) ?yT0) ?rT0
  case yT0 => (intro w' hSw; (try dsimp only at hSw); go_simp; try with_reducible rfl)
  (try simp only [Act.put, List.getElem_toArray, List.getElem_cons_zero, List.getElem_cons_succ, List.setIfInBounds_toArray, List.set_cons_zero, List.set_cons_succ])
  refine wpDet_take ?vT1 (Bl.stays w2) (fun W h => ⟨hNz.blk.below h, hA2.below h⟩) (i := 1) rfl (by kernel_rfl) (by kernel_rfl) (by kernel_rfl) (by kernel_rfl) (fun _ _ _ h => h) (Gives.value (by rfl) ?yT1) ?rT1
  case yT1 => (intro w' hSw; (try dsimp only at hSw); go_simp; try with_reducible rfl)
  (try simp only [Act.put, List.getElem_toArray, List.getElem_cons_zero, List.getElem_cons_succ, List.setIfInBounds_toArray, List.set_cons_zero, List.set_cons_succ])
  refine wpDet_take ?vT2 (Bl.stays w2) (fun W h => ⟨hNz.blk.below h, hA2.below h⟩) (i := 2) rfl (by kernel_rfl) (by kernel_rfl) (by kernel_rfl) (by kernel_rfl) (fun _ _ _ h => h) (Gives.value (by rfl) ?yT2) ?rT2
  case yT2 => (intro w' hSw; (try dsimp only at hSw); go_simp; try with_reducible rfl)
  (try simp only [Act.put, List.getElem_toArray, List.getElem_cons_zero, List.getElem_cons_succ, List.setIfInBounds_toArray, List.set_cons_zero, List.set_cons_succ])
  refine wpDet_take ?vT3 (Bl.stays w2) (fun W h => ⟨hNz.blk.below h, hA2.below h⟩) (i := 3) rfl (by kernel_rfl) (by kernel_rfl) (by kernel_rfl) (by kernel_rfl) (fun _ _ _ h => h) (Gives.value (by rfl) ?yT3) ?rT3
  case yT3 => (intro w' hSw; have hz := hSw.1.cell 1; (try dsimp only at hSw); go_simp; try with_reducible rfl)
  (try simp only [Act.put, List.getElem_toArray, List.getElem_cons_zero, List.getElem_cons_succ, List.setIfInBounds_toArray, List.set_cons_zero, List.set_cons_succ])
  refine wpDet_take ?vT4 (Bl.stays w2) (fun W h => ⟨hNz.blk.below h, hA2.below h⟩) (i := 4) rfl (by kernel_rfl) (by kernel_rfl) (by kernel_rfl) (by kernel_rfl) (fun _ _ _ h => h) (Gives.value (by rfl) ?yT4) ?rT4
  case yT4 => (intro w' hSw; (try dsimp only at hSw); go_simp; try with_reducible rfl)
  (try simp only [Act.put, List.getElem_toArray, List.getElem_cons_zero, List.getElem_cons_succ, List.setIfInBounds_toArray, List.set_cons_zero, List.set_cons_succ])
  refine wpDet_take ?vT5 (Bl.stays w2) (fun W h => ⟨hNz.blk.below h, hA2.below h⟩) (i := 5) rfl (by kernel_rfl) (by kernel_rfl) (by kernel_rfl) (by kernel_rfl) (fun _ _ _ h => h) (Gives.value (by rfl) ?yT5) ?rT5
  case yT5 => (intro w' hSw; have hz := hSw.2.cell 0; (try dsimp only at hSw); go_simp; try with_reducible rfl)
  (try simp only [Act.put, List.getElem_toArray, List.getElem_cons_zero, List.getElem_cons_succ, List.setIfInBounds_toArray, List.set_cons_zero, List.set_cons_succ])
  refine wpDet_take (.bool (hasN side x)) (Bl.stays w2) (fun W h => ⟨hNz.blk.below h, hA2.below h⟩) (i := 6) rfl (by kernel_rfl) (by kernel_rfl) (by kernel_rfl) (by kernel_rfl) (fun _ _ _ h => h) (Gives.call 49 #[.int .u64 side, .int .i64 x] (by rfl) (fun _ => by first | (go_simp; done) | (go_simp; rfl)) (fun W hW => (has_any side x W hsd).mono fun e w' h => ⟨h.1, by rw [h.2]; exact Below.refl _ _⟩)) ?_
  (try simp only [Act.put, List.getElem_toArray, List.getElem_cons_zero, List.getElem_cons_succ, List.setIfInBounds_toArray, List.set_cons_zero, List.set_cons_succ])
  refine wpDet_take ?vT7 (Bl.stays w2) (fun W h => ⟨hNz.blk.below h, hA2.below h⟩) (i := 7) rfl (by kernel_rfl) (by kernel_rfl) (by kernel_rfl) (by kernel_rfl) (fun _ _ _ h => h) (Gives.value (by rfl) ?yT7) ?rT7
  case yT7 => (intro w' hSw; (try dsimp only at hSw); go_simp; try with_reducible rfl)
  (try simp only [Act.put, List.getElem_toArray, List.getElem_cons_zero, List.getElem_cons_succ, List.setIfInBounds_toArray, List.set_cons_zero, List.set_cons_succ])
  refine wpDet_take ?vT8 (Bl.stays w2) (fun W h => ⟨hNz.blk.below h, hA2.below h⟩) (i := 8) rfl (by kernel_rfl) (by kernel_rfl) (by kernel_rfl) (by kernel_rfl) (fun _ _ _ h => h) (Gives.value (by rfl) ?yT8) ?rT8
  case yT8 => (intro w' hSw; (try dsimp only at hSw); go_simp; try with_reducible rfl)
  (try simp only [Act.put, List.getElem_toArray, List.getElem_cons_zero, List.getElem_cons_succ, List.setIfInBounds_toArray, List.set_cons_zero, List.set_cons_succ])
  refine wpDet_take ?vT9 (Bl.stays w2) (fun W h => ⟨hNz.blk.below h, hA2.below h⟩) (i := 9) rfl (by kernel_rfl) (by kernel_rfl) (by kernel_rfl) (by kernel_rfl) (fun _ _ _ h => h) (Gives.value (by rfl) ?yT9) ?rT9
  case yT9 => (intro w' hSw; (try dsimp only at hSw); go_simp; try with_reducible rfl)
  (try simp only [Act.put, List.getElem_toArray, List.getElem_cons_zero, List.getElem_cons_succ, List.setIfInBounds_toArray, List.set_cons_zero, List.set_cons_succ])
  refine wpDet_take ?vT10 (Bl.stays w2) (fun W h => ⟨hNz.blk.below h, hA2.below h⟩) (i := 10) rfl (by kernel_rfl) (by kernel_rfl) (by kernel_rfl) (by kernel_rfl) (fun _ _ _ h => h) (Gives.value (by rfl) ?yT10) ?rT10
  case yT10 => (intro w' hSw; have hz := hSw.1.cell 1; (try dsimp only at hSw); go_simp; try with_reducible rfl)
  (try simp only [Act.put, List.getElem_toArray, List.getElem_cons_zero, List.getElem_cons_succ, List.setIfInBounds_toArray, List.set_cons_zero, List.set_cons_succ])
  refine wpDet_take ?vT11 (Bl.stays w2) (fun W h => ⟨hNz.blk.below h, hA2.below h⟩) (i := 11) rfl (by kernel_rfl) (by kernel_rfl) (by kernel_rfl) (by kernel_rfl) (fun _ _ _ h => h) (Gives.value (by rfl) ?yT11) ?rT11
  case yT11 => (intro w' hSw; (try dsimp only at hSw); go_simp; try with_reducible rfl)
  (try simp only [Act.put, List.getElem_toArray, List.getElem_cons_zero, List.getElem_cons_succ, List.setIfInBounds_toArray, List.set_cons_zero, List.set_cons_succ])
  refine wpDet_take ?vT12 (Bl.stays w2) (fun W h => ⟨hNz.blk.below h, hA2.below h⟩) (i := 12) rfl (by kernel_rfl) (by kernel_rfl) (by kernel_rfl) (by kernel_rfl) (fun _ _ _ h => h) (Gives.value (by rfl) ?yT12) ?rT12
  case yT12 => (intro w' hSw; have hz := hSw.2.cell 1; (try dsimp only at hSw); go_simp; try with_reducible rfl)
  (try simp only [Act.put, List.getElem_toArray, List.getElem_cons_zero, List.getElem_cons_succ, List.setIfInBounds_toArray, List.set_cons_zero, List.set_cons_succ])
  refine wpDet_take (.bool (hasN side y)) (Bl.stays w2) (fun W h => ⟨hNz.blk.below h, hA2.below h⟩) (i := 13) rfl (by kernel_rfl) (by kernel_rfl) (by kernel_rfl) (by kernel_rfl) (fun _ _ _ h => h) (Gives.call 49 #[.int .u64 side, .int .i64 y] (by rfl) (fun _ => by first | (go_simp; done) | (go_simp; rfl)) (fun W hW => (has_any side y W hsd).mono fun e w' h => ⟨h.1, by rw [h.2]; exact Below.refl _ _⟩)) ?_
  (try simp only [Act.put, List.getElem_toArray, List.getElem_cons_zero, List.getElem_cons_succ, List.setIfInBounds_toArray, List.set_cons_zero, List.set_cons_succ])
  refine wpDet_take (.bool (hasN side x != hasN side y)) (Bl.stays w2) (fun W h => ⟨hNz.blk.below h, hA2.below h⟩) (i := 14) rfl (by kernel_rfl) (by kernel_rfl) (by kernel_rfl) (by kernel_rfl) (fun _ _ _ h => h) (Gives.value (by rfl) ?yT14) ?rT14
  case yT14 => (intro w' hSw; (try dsimp only at hSw); go_simp; cases hasN side x <;> cases hasN side y <;> rfl)
  (try simp only [Act.put, List.getElem_toArray, List.getElem_cons_zero, List.getElem_cons_succ, List.setIfInBounds_toArray, List.set_cons_zero, List.set_cons_succ])
  refine wpDet_done (by kernel_rfl) (fun W1 hW1 => ?_) _
  have hN3 := hNz.below (Bl.out' hW1)
  have hB3 := hB2.bl (Bl.out' hW1) hBs2
  have hBs3 : B ≤ W1.heap.size := Nat.le_trans hBs2 (Bl.out' hW1).size
  clear hA2 hB2 hBs2 hS2 hW1 hNz
  by_cases he : hasN side x = hasN side y
  · have e1 : (hasN side x != hasN side y) = false := by rw [he]; simp
    have E2 : Hid (opn side x y = true) := show (hasN side x == hasN side y) = true by rw [he]; simp
    clear he
    rw [e1]
    clear e1
    obtain ⟨c, w', hcv, hrd, hbl, hru⟩ := conv_back W1 msg
    go_wp2_with fail
    go_ret3
    have e2 := E2.out
    exact ⟨⟨some ⟨W1.heap.size, 0, none⟩, msg.size, c, by rw [e2]; rfl, by rw [e2, if_pos rfl]; exact hrd, hru.low hB3.sz⟩, ⟨v, hN3.below hbl⟩, hB3.bl hbl hBs3⟩
  · have e1 : (hasN side x != hasN side y) = true := by simpa using he
    have E2 : Hid (opn side x y = false) := show (hasN side x == hasN side y) = false by simpa using he
    clear he
    rw [e1]
    clear e1
    go_wp2_with fail
    go_ret3
    have e2 := E2.out
    exact ⟨⟨none, 0, 0, by rw [e2]; rfl, by rw [e2, if_neg (by decide)]; exact ⟨rfl, Nat.le_refl _, (fun _ => rfl), (fun h => absurd h (by omega))⟩, fun a e => by cases e⟩, ⟨v, hN3⟩, hB3⟩

theorem BelF.rd {w w' : World} {B g b n side : Nat} {lost : Int} {N : Int → Int → List ByteArray} {R : Int → Int → Value} (h : NB Z w B g b n side lost N R) (hF : BelF Z B g b w w') {p : Option Addr} {m c : Nat} {xs : List Int} (hr : Rd .u8 w p m c xs) {B0 : Nat} (hu : RowU B0 w p) : Rd .u8 w' p m c xs ∧ RowU B0 w' p := by
  have key : ∀ a, p = some a → w'.heap[a.block]? = w.heap[a.block]? := by
    intro a ha
    obtain ⟨-, cs, f, e, -⟩ := hu a ha
    refine hF.fr a.block (Array.getElem?_eq_some_iff.1 e).1 (fun eg => ?_) (fun eb => ?_) (fun cs' f' e2 => ?_)
    · have hb : w.heap[g]? = some (.cells #[.map (some b), .int .u64 side, .int .i64 lost] 68 (0, 0)) := h.blk
      rw [eg, hb] at e
      injection e with e
      injection e with _ e2 _
      exact absurd e2 (by decide)
    · obtain ⟨es, clock, h1, _⟩ := h.map
      rw [eb, h1] at e
      injection e with e
      cases e
    · rw [e2] at e
      injection e with e
      injection e with _ e2 _
      exact absurd e2 (by decide)
  refine ⟨⟨hr.len, hr.cap, hr.nil, fun hm => ?_⟩, fun a ha => ?_⟩
  · obtain ⟨x, o, rfl, hc⟩ := hr.cells hm
    refine ⟨x, o, rfl, fun i hi => ?_⟩
    rw [← hc i hi]
    have := key _ rfl
    unfold World.cell?
    dsimp only at this ⊢
    rw [this]
  · obtain ⟨h0, cs, f, e, hj⟩ := hu a ha
    exact ⟨h0, cs, f, (key a ha).trans e, hj⟩

end Go.Proofs.Ytmnipfdcbmamnaa.M
