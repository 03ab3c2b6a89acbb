/-
  Own text: the document's Net in memory; its calls where they are refused.
-/
import Derived.Test.YtmnipfdcbmamnaaXRef
namespace Go.Proofs.Ytmnipfdcbmamnaa.M
open Go.ChangeShapes Go.WideShapes Go.ChangeAt Go.RowKit Go.ChangeMaps Go.MapKept Go.Maps

/-- The cells of the document's Net: its messages, who stands on the other side, how many had no room. -/
def xc (v : Value) (bs : List Bool) (lost : Int) : Array Value := (v :: (bs.map Value.bool ++ [.int .i64 lost])).toArray

theorem xc_zero (v : Value) (bs : List Bool) (lost : Int) : (xc v bs lost)[0]? = some v := rfl

theorem xc_lost {bs : List Bool} (h : bs.length = 64) (v : Value) (lost : Int) : (xc v bs lost)[65]? = some (.int .i64 lost) := by
  unfold xc
  rw [List.getElem?_toArray, List.getElem?_cons_succ, List.getElem?_append_right (by rw [List.length_map, h]; exact Nat.le_refl _), List.length_map, h]
  rfl

theorem xc_side {bs : List Bool} (h : bs.length = 64) (v : Value) (lost : Int) {i : Nat} (hi : i < 64) : (xc v bs lost)[1 + i]? = some (.bool (bs.getD i false)) := by
  unfold xc
  rw [List.getElem?_toArray, Nat.add_comm, List.getElem?_cons_succ, List.getElem?_append_left (by rw [List.length_map, h]; exact hi), List.getElem?_map, List.getD_eq_getElem?_getD, List.getElem?_eq_getElem (by rw [h]; exact hi)]
  rfl

theorem xc_setV (v u : Value) (bs : List Bool) (lost : Int) : (xc v bs lost).setIfInBounds 0 u = xc u bs lost := by
  unfold xc
  rw [List.setIfInBounds_toArray]
  rfl

theorem xc_setL {bs : List Bool} (h : bs.length = 64) (v : Value) (lost k : Int) : (xc v bs lost).setIfInBounds 65 (.int .i64 k) = xc v bs k := by
  unfold xc
  rw [List.setIfInBounds_toArray, List.set_cons_succ, show (List.map Value.bool bs ++ [Value.int IntKind.i64 lost]).set 64 (.int .i64 k) = List.map Value.bool bs ++ [Value.int IntKind.i64 k] by rw [List.set_append, if_neg (by rw [List.length_map, h]; omega), List.length_map, h]; rfl]

/-- The document's Net in a block: its messages lie elsewhere. -/
structure XB (w : World) (gx : Nat) (p : Option Addr) (n c : Nat) (bs : List Bool) (lost : Int) (its : List It) : Prop where
  blk : At 31 w gx (xc (.slice p n c) bs lost)
  len : bs.length = 64
  rd : RdI w p n c its
  off : ∀ a, p = some a → 0 < n → a.block ≠ gx

theorem XB.below {w w' : World} {gx : Nat} {p : Option Addr} {n c : Nat} {bs : List Bool} {lost : Int} {its : List It} (h : XB w gx p n c bs lost its) (hb : Below w.heap.size w w') : XB w' gx p n c bs lost its :=
  ⟨h.blk.below hb, h.len, h.rd.below hb, h.off⟩

theorem XB.c0 {w : World} {gx : Nat} {p : Option Addr} {n c : Nat} {bs : List Bool} {lost : Int} {its : List It} (h : XB w gx p n c bs lost its) : w.cell? ⟨gx, 0, none⟩ = some (.slice p n c) := (h.blk.cell 0).trans (xc_zero _ _ _)

theorem XB.c65 {w : World} {gx : Nat} {p : Option Addr} {n c : Nat} {bs : List Bool} {lost : Int} {its : List It} (h : XB w gx p n c bs lost its) : w.cell? ⟨gx, 65, none⟩ = some (.int .i64 lost) := (h.blk.cell 65).trans (xc_lost h.len _ _)

theorem XB.cs {w : World} {gx : Nat} {p : Option Addr} {n c : Nat} {bs : List Bool} {lost : Int} {its : List It} (h : XB w gx p n c bs lost its) {i : Nat} (hi : i < 64) : w.cell? ⟨gx, 1 + i, none⟩ = some (.bool (bs.getD i false)) := (h.blk.cell (1 + i)).trans (xc_side h.len _ _ hi)

theorem RdI.ex {w w' : World} {gx : Nat} {p : Option Addr} {n c : Nat} {its : List It} (h : RdI w p n c its) (he : Ex gx w w') (ho : ∀ a, p = some a → 0 < n → a.block ≠ gx) : RdI w' p n c its :=
  ⟨h.len, h.cap, h.nil, fun hn => by
    obtain ⟨b, o, e, hc⟩ := h.cells hn
    refine ⟨b, o, e, fun i hi => ?_⟩
    have hne : b ≠ gx := ho _ e hn
    obtain ⟨k0, k1, k2⟩ := hc i hi
    have hlt := World.block_lt_of_cell? _ _ k0
    have heq : ∀ j, w'.cell? ⟨b, j, none⟩ = w.cell? ⟨b, j, none⟩ := fun j => World.cell?_of_block (he.block b hlt hne)
    exact ⟨(heq _).trans k0, (heq _).trans k1, (heq _).trans k2⟩, fun a e h0 => by
    obtain ⟨cs, f, h1⟩ := h.row a e h0
    exact ⟨cs, f, (he.block a.block (Array.getElem?_eq_some_iff.1 h1).1 (ho a e h0)).trans h1⟩⟩

theorem XB.lose {w : World} {gx : Nat} {p : Option Addr} {n c : Nat} {bs : List Bool} {lost : Int} {its : List It} (h : XB w gx p n c bs lost its) (k : Int) : XB (w.setCell ⟨gx, 65, none⟩ (.int .i64 k)) gx p n c bs k its :=
  ⟨by
    have h1 := heap_setCell_same w gx 65 _ _ (.int .i64 k) h.blk
    unfold At
    rw [h1, xc_setL h.len], h.len, h.rd.ex ((Ex.refl gx w).setCell 65 _) h.off, h.off⟩

set_option maxRecDepth 20000 in
set_option maxHeartbeats 2000000 in
theorem rPeek_no {w : World} {gx : Nat} {p : Option Addr} {n c : Nat} {bs : List Bool} {lost : Int} {its : List It} (h : XB w gx p n c bs lost its) (hn : n ≤ 1000000) (x y i : Int) (hp : plR x y its i 0 = none) :
    Calls Try.prog 16 #[.pointer (some ⟨gx, 0, none⟩), .agg #[.int .i64 x, .int .i64 y], .int .i64 i] w fun o w' => o = .returned (.tuple #[.string { data := #[] }, .int .i64 40]) ∧ Below w.heap.size w w' := by
  have hba := below_alloc w (.cells #[.int .i64 x, .int .i64 y] 33)
  have hA := At.new 33 w #[.int .i64 x, .int .i64 y]
  obtain ⟨a0, a1⟩ := hA.two
  have h1 := h.below hba
  have hP := rplace_any _ gx p n c its h1.c0 h1.rd hn x y i
  have hV : plV x y its i = -1 := by unfold plV; rw [hp]; rfl
  rw [hV] at hP
  clear h h1 hA hV hp
  go_enter Try.func16, Try.ntmps16
  go_wp2_with fail
  refine hP.mono ?_
  rintro o w1 ⟨rfl, hw⟩
  clear hP a0 a1
  go_wp2_with fail
  go_ret2
  exact ⟨rfl, hba.trans (hw.mono hba.size)⟩

set_option maxRecDepth 20000 in
set_option maxHeartbeats 2000000 in
theorem rPeek_yes {w : World} {gx : Nat} {p : Option Addr} {n c : Nat} {bs : List Bool} {lost : Int} {its : List It} (h : XB w gx p n c bs lost its) (hn : n ≤ 1000000) (x y i : Int) {at_ : Nat} (hp : plR x y its i 0 = some at_) :
    Calls Try.prog 16 #[.pointer (some ⟨gx, 0, none⟩), .agg #[.int .i64 x, .int .i64 y], .int .i64 i] w fun o w' => o = .returned (.tuple #[.string (its.getD at_ (0, 0, ByteArray.empty)).2.2, .int .i64 0]) ∧ Below w.heap.size w w' := by
  obtain ⟨t, HT⟩ : ∃ z, Hid (its.getD at_ (0, 0, ByteArray.empty) = z) := ⟨_, rfl⟩
  rw [HT.out]
  have hba := below_alloc w (.cells #[.int .i64 x, .int .i64 y] 33)
  have hA := At.new 33 w #[.int .i64 x, .int .i64 y]
  obtain ⟨a0, a1⟩ := hA.two
  have h1 := h.below hba
  have hP := rplace_any _ gx p n c its h1.c0 h1.rd hn x y i
  have hV : plV x y its i = (at_ : Int) := by unfold plV; rw [hp]; rfl
  rw [hV] at hP
  have hlt : at_ < n := by have := (plR_some x y its i 0 at_ hp).1.2; rw [h.rd.len] at this; omega
  clear h hA hV hp
  go_enter Try.func16, Try.ntmps16
  go_wp2_with fail
  refine hP.mono ?_
  rintro o w1 ⟨rfl, hw⟩
  clear hP a0 a1
  have h2 := h1.below hw
  have c0 := h2.c0
  obtain ⟨b, o, rfl, hc⟩ := h2.rd.cells (by omega)
  obtain ⟨_, _, k2⟩ := hc at_ hlt
  have hli : (at_ : Int) < (n : Int) := by omega
  rw [HT.out] at k2
  clear hc h1 h2
  go_wp2_with fail
  go_ret2
  exact ⟨rfl, hba.trans (hw.mono hba.size)⟩

set_option maxRecDepth 20000 in
set_option maxHeartbeats 2000000 in
theorem rSend_link (w : World) (gx : Nat) {x y : Int} (hl : isLk x y = false) (q : Option Addr) (m d : Nat) :
    Calls Try.prog 36 #[.pointer (some ⟨gx, 0, none⟩), .agg #[.int .i64 x, .int .i64 y], .slice q m d] w fun o w' => o = .returned (.int .i64 40) ∧ Below w.heap.size w w' := by
  have hba := below_alloc w (.cells #[.int .i64 x, .int .i64 y] 33)
  have hA := At.new 33 w #[.int .i64 x, .int .i64 y]
  obtain ⟨a0, a1⟩ := hA.two
  have hp := rright_any (w.alloc (.cells #[.int .i64 x, .int .i64 y] 33)) x y
  rw [hl] at hp
  clear hA
  go_enter Try.func36, Try.ntmps36
  go_wp2_with fail
  refine hp.mono ?_
  rintro o w1 ⟨rfl, hw⟩
  clear hp a0 a1
  go_wp2_with fail
  go_ret
  exact ⟨rfl, hba.trans (hw.mono hba.size)⟩

set_option maxRecDepth 20000 in
set_option maxHeartbeats 2000000 in
theorem rSend_long (w : World) (gx : Nat) {x y : Int} (hl : isLk x y = true) (q : Option Addr) (m d : Nat) (hm : 8192 < m) :
    Calls Try.prog 36 #[.pointer (some ⟨gx, 0, none⟩), .agg #[.int .i64 x, .int .i64 y], .slice q m d] w fun o w' => o = .returned (.int .i64 4) ∧ Below w.heap.size w w' := by
  have hba := below_alloc w (.cells #[.int .i64 x, .int .i64 y] 33)
  have hA := At.new 33 w #[.int .i64 x, .int .i64 y]
  obtain ⟨a0, a1⟩ := hA.two
  have hp := rright_any (w.alloc (.cells #[.int .i64 x, .int .i64 y] 33)) x y
  rw [hl] at hp
  have hd : decide ((8192 : Int) < (m : Int)) = true := decide_eq_true (by omega)
  clear hA
  go_enter Try.func36, Try.ntmps36
  go_wp2_with fail
  refine hp.mono ?_
  rintro o w1 ⟨rfl, hw⟩
  clear hp a0 a1
  go_wp2_with fail
  go_ret
  exact ⟨rfl, hba.trans (hw.mono hba.size)⟩

set_option maxRecDepth 20000 in
set_option maxHeartbeats 2000000 in
theorem rSend_full {w : World} {gx : Nat} {p : Option Addr} {n c : Nat} {bs : List Bool} {lost : Int} {its : List It} (h : XB w gx p n c bs lost its) (hn : n ≤ 1000000) {x y : Int} (hl : isLk x y = true) (q : Option Addr) (m d : Nat) (hm : m ≤ 8192) (hf : 8 ≤ (itN its x y).length) (hlo : 0 ≤ lost ∧ lost ≤ 1000000) :
    Calls Try.prog 36 #[.pointer (some ⟨gx, 0, none⟩), .agg #[.int .i64 x, .int .i64 y], .slice q m d] w fun o w' => o = .returned (.int .i64 7) ∧ XB w' gx p n c bs (lost + 1) its ∧ Ex gx w w' := by
  have hba := below_alloc w (.cells #[.int .i64 x, .int .i64 y] 33)
  have hA := At.new 33 w #[.int .i64 x, .int .i64 y]
  obtain ⟨a0, a1⟩ := hA.two
  have h1 := h.below hba
  have hp := rright_any (w.alloc (.cells #[.int .i64 x, .int .i64 y] 33)) x y
  rw [hl] at hp
  have hd : decide ((8192 : Int) < (m : Int)) = false := decide_eq_false (by omega)
  have hwr : IntKind.i64.wrap (lost + 1) = lost + 1 := by rw [IntKind.wrap_i64]; omega
  clear h
  go_enter Try.func36, Try.ntmps36
  go_wp2_with fail
  refine hp.mono ?_
  rintro o w1 ⟨rfl, hw⟩
  clear hp a0 a1
  have hb1 := hba.trans (hw.mono hba.size)
  have h2 := h1.below hw
  have hA1 := hA.below hw
  obtain ⟨a0, a1⟩ := hA1.two
  have hL := rLen_any w1 gx p n c its h2.c0 h2.rd hn x y
  obtain ⟨K, HK⟩ : ∃ z, Hid ((itN its x y).length = z) := ⟨_, rfl⟩
  rw [HK.out] at hL hf
  have hg : decide ((8 : Int) ≤ (K : Int)) = true := decide_eq_true (by omega)
  clear hA hw hba hA1 h1
  go_wp2_with fail
  refine hL.mono ?_
  rintro o w2 ⟨rfl, hw2⟩
  clear hL a0 a1
  have h3 := h2.below hw2
  have c65 := h3.c65
  have f65 := h3.blk.free 65
  have hz := h3.lose (lost + 1)
  have hez : Ex gx w (w2.setCell ⟨gx, 65, none⟩ (.int .i64 (lost + 1))) := (Ex.of_below (hb1.trans (hw2.mono hb1.size))).setCell 65 _
  clear h2 h3 hw2 hb1
  go_wp2_with fail
  go_ret
  exact ⟨rfl, hz, hez⟩

set_option maxRecDepth 20000 in
set_option maxHeartbeats 2000000 in
theorem rLose_no {w : World} {gx : Nat} {p : Option Addr} {n c : Nat} {bs : List Bool} {lost : Int} {its : List It} (h : XB w gx p n c bs lost its) (hn : n ≤ 1000000) (x y i : Int) (hp : plR x y its i 0 = none) :
    Calls Try.prog 32 #[.pointer (some ⟨gx, 0, none⟩), .agg #[.int .i64 x, .int .i64 y], .int .i64 i] w fun o w' => o = .returned (.int .i64 40) ∧ Below w.heap.size w w' := by
  have hba := below_alloc w (.cells #[.int .i64 x, .int .i64 y] 33)
  have hA := At.new 33 w #[.int .i64 x, .int .i64 y]
  obtain ⟨a0, a1⟩ := hA.two
  have h1 := h.below hba
  have hP := rplace_any _ gx p n c its h1.c0 h1.rd hn x y i
  have hV : plV x y its i = -1 := by unfold plV; rw [hp]; rfl
  rw [hV] at hP
  clear h h1 hA hV hp
  go_enter Try.func32, Try.ntmps32
  go_wp2_with fail
  refine hP.mono ?_
  rintro o w1 ⟨rfl, hw⟩
  clear hP a0 a1
  go_wp2_with fail
  go_ret
  exact ⟨rfl, hba.trans (hw.mono hba.size)⟩

set_option maxRecDepth 20000 in
set_option maxHeartbeats 2000000 in
theorem rDouble_no {w : World} {gx : Nat} {p : Option Addr} {n c : Nat} {bs : List Bool} {lost : Int} {its : List It} (h : XB w gx p n c bs lost its) (hn : n ≤ 1000000) (x y i : Int) (hp : plR x y its i 0 = none) :
    Calls Try.prog 33 #[.pointer (some ⟨gx, 0, none⟩), .agg #[.int .i64 x, .int .i64 y], .int .i64 i] w fun o w' => o = .returned (.int .i64 40) ∧ Below w.heap.size w w' := by
  have hba := below_alloc w (.cells #[.int .i64 x, .int .i64 y] 33)
  have hA := At.new 33 w #[.int .i64 x, .int .i64 y]
  obtain ⟨a0, a1⟩ := hA.two
  have h1 := h.below hba
  have hP := rplace_any _ gx p n c its h1.c0 h1.rd hn x y i
  have hV : plV x y its i = -1 := by unfold plV; rw [hp]; rfl
  rw [hV] at hP
  clear h h1 hA hV hp
  go_enter Try.func33, Try.ntmps33
  go_wp2_with fail
  refine hP.mono ?_
  rintro o w1 ⟨rfl, hw⟩
  clear hP a0 a1
  go_wp2_with fail
  go_ret
  exact ⟨rfl, hba.trans (hw.mono hba.size)⟩

set_option maxRecDepth 20000 in
set_option maxHeartbeats 2000000 in
theorem rTake_no {w : World} {gx : Nat} {p : Option Addr} {n c : Nat} {bs : List Bool} {lost : Int} {its : List It} (h : XB w gx p n c bs lost its) (hn : n ≤ 1000000) (x y i : Int) (hp : plR x y its i 0 = none) :
    Calls Try.prog 31 #[.pointer (some ⟨gx, 0, none⟩), .agg #[.int .i64 x, .int .i64 y], .int .i64 i] w fun o w' => o = .returned (.tuple #[.string { data := #[] }, .bool false, .int .i64 40]) ∧ Below w.heap.size w w' := by
  have hba := below_alloc w (.cells #[.int .i64 x, .int .i64 y] 33)
  have hA := At.new 33 w #[.int .i64 x, .int .i64 y]
  obtain ⟨a0, a1⟩ := hA.two
  have h1 := h.below hba
  have hP := rplace_any _ gx p n c its h1.c0 h1.rd hn x y i
  have hV : plV x y its i = -1 := by unfold plV; rw [hp]; rfl
  rw [hV] at hP
  clear h h1 hA hV hp
  go_enter Try.func31, Try.ntmps31
  go_wp2_with fail
  refine hP.mono ?_
  rintro o w1 ⟨rfl, hw⟩
  clear hP a0 a1
  go_wp2_with fail
  go_ret3
  exact ⟨rfl, hba.trans (hw.mono hba.size)⟩

set_option maxRecDepth 20000 in
set_option maxHeartbeats 2000000 in
theorem rDouble_full {w : World} {gx : Nat} {p : Option Addr} {n c : Nat} {bs : List Bool} {lost : Int} {its : List It} (h : XB w gx p n c bs lost its) (hn : n ≤ 1000000) (x y i : Int) {at_ : Nat} (hp : plR x y its i 0 = some at_) (hf : 8 ≤ (itN its x y).length) :
    Calls Try.prog 33 #[.pointer (some ⟨gx, 0, none⟩), .agg #[.int .i64 x, .int .i64 y], .int .i64 i] w fun o w' => o = .returned (.int .i64 7) ∧ Below w.heap.size w w' := by
  have hba := below_alloc w (.cells #[.int .i64 x, .int .i64 y] 33)
  have hA := At.new 33 w #[.int .i64 x, .int .i64 y]
  obtain ⟨a0, a1⟩ := hA.two
  have h1 := h.below hba
  have hP := rplace_any _ gx p n c its h1.c0 h1.rd hn x y i
  have hV : plV x y its i = (at_ : Int) := by unfold plV; rw [hp]; rfl
  rw [hV] at hP
  have hng : ¬ (at_ : Int) < 0 := by omega
  clear h hV hp
  go_enter Try.func33, Try.ntmps33
  go_wp2_with fail
  refine hP.mono ?_
  rintro o w1 ⟨rfl, hw⟩
  clear hP a0 a1
  have hb1 := hba.trans (hw.mono hba.size)
  have h2 := h1.below hw
  have hA1 := hA.below hw
  obtain ⟨a0, a1⟩ := hA1.two
  have hL := rLen_any w1 gx p n c its h2.c0 h2.rd hn x y
  obtain ⟨K, HK⟩ : ∃ z, Hid ((itN its x y).length = z) := ⟨_, rfl⟩
  rw [HK.out] at hL hf
  have hg : decide ((8 : Int) ≤ (K : Int)) = true := decide_eq_true (by omega)
  clear hA hw hba hA1 h1 h2
  go_wp2_with fail
  refine hL.mono ?_
  rintro o w2 ⟨rfl, hw2⟩
  clear hL a0 a1
  go_wp2_with fail
  go_ret
  exact ⟨rfl, hb1.trans (hw2.mono hb1.size)⟩

end Go.Proofs.Ytmnipfdcbmamnaa.M
