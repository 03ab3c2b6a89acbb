/-
  Own text: bytes of a call's own that are written over leave both Nets as they are; slices.Clone of bytes.
-/
import Derived.Test.YtmnipfdcbmamnaaXTwo
namespace Go.Proofs.Ytmnipfdcbmamnaa.M
open Go.ChangeShapes Go.WideShapes Go.ChangeAt Go.RowKit Go.ChangeMaps Go.MapKept Go.Maps

variable {Z : Nat → Prop}

/-- Of an empty slice no block is meant. -/
def pz (p : Option Addr) (n : Nat) : Option Addr := if 0 < n then p else none

theorem RowU.pz {B0 : Nat} {w : World} {p : Option Addr} (h : RowU B0 w p) (n : Nat) : RowU B0 w (pz p n) := fun a e => by
  unfold M.pz at e
  split at e
  · exact h a e
  · cases e

theorem infoZ8 : (Try.prog.info? 5).map (fun i => (i.zero, i.size, i.bytes)) = some (some (.int .u8 0), 1, 1) := by kernel_rfl

theorem Ow.rowU {w : World} {B n c : Nat} {p : Option Addr} {xs : List Int} (h : Ow .u8 5 w B p n c xs) : RowU B w (pz p n) := fun a e => by
  unfold M.pz at e
  split at e
  · rcases h.own with ⟨rfl, rfl⟩ | ho
    · omega
    · rcases ho.2 with ⟨hv, rfl⟩ | ⟨g, cap, cur, hv, hg, hh, _⟩
      · omega
      · simp at hv
        obtain ⟨rfl, rfl⟩ := hv
        cases e
        exact ⟨hg, _, _, hh, fun j _ hj => by have := hj.2; omega⟩
  · cases e

set_option maxRecDepth 20000 in
theorem bclone_any (p : Option Addr) (n c : Nat) (xs : List Int) (w : World) (hr : Rd .u8 w p n c xs) (hn : n ≤ 140737488351232) :
    Calls Try.prog 9 #[.slice p n c] w fun e w' => (∃ p' c', e = .returned (.slice p' n c') ∧ Rd .u8 w' p' n c' xs ∧ RowU w.heap.size w' (pz p' n)) ∧ Below w.heap.size w w' := by
  have q22 : ∀ (w : World) (a : Option Addr) (n c n' c' : Nat), (binOp .eql 34 (.slice a n c) (.slice none n' c')).run Try.prog w = .ok (.bool a.isNone) w := fun w a n c n' c' => Lib.run_eql_slice_nil w _ _ a n c n' c' Try.underlying34
  cases p with
  | none =>
    have hc := hr.nil rfl
    have hn0 : n = 0 := by have := hr.cap; omega
    subst hc hn0
    obtain rfl : xs = [] := List.length_eq_zero_iff.1 hr.len
    go_enter Try.func9, Try.ntmps9
    go_wp2
    go_ret
    exact ⟨⟨none, 0, rfl, hr, fun _ e => by cases e⟩, Below.refl _ _⟩
  | some a =>
    obtain ⟨i0, hi0, hz0, hz1, hz2⟩ := info_parts infoZ8
    go_enter Try.func9, Try.ntmps9
    go_wp2_with (at_builtin; refine wpList_app _ rfl _ _ 34 rfl .u8 5 i0 (.int .u8 0) 1 Try.underlying34 hi0 hz0 hz1 hz2 rfl w.heap.size _ _ _ [] rfl (Ow.empty _ _ _ _ _) _ _ _ xs rfl (hr.below (below_alloc _ _)) ?d1 ?d2 ?d3 ?_)
    case d1 => omega
    case d2 => unfold maxLen; omega
    case d3 => simp
    intro p2 c2 w2 ho2 hb2
    have hb3 := ((below_alloc w (.cells #[] 5)).trans hb2)
    clear hb2
    go_wp2
    go_ret
    have ho3 : Ow .u8 5 w2 w.heap.size p2 n c2 xs := by simpa using ho2
    exact ⟨⟨p2, c2, by simp, ho3.rd, ho3.rowU⟩, hb3⟩

theorem heap_setCell_any (w : World) (g i : Nat) (cs : Array Value) (t : TypeId) (f : Nat × Nat) (v : Value) (hg : w.heap[g]? = some (.cells cs t f)) : (w.setCell ⟨g, i, none⟩ v).heap[g]? = some (.cells (cs.setIfInBounds i v) t f) := by
  simp [World.setCell, Array.getElem?_modify, hg]

/-- All is as it was but the block of a slice. -/
structure Kp (p : Option Addr) (w w' : World) : Prop where
  os : w'.os = w.os
  tape : w'.tape = w.tape
  output : w'.output = w.output
  size : w.heap.size ≤ w'.heap.size
  block : ∀ k, k < w.heap.size → (∀ a, p = some a → a.block ≠ k) → w'.heap[k]? = w.heap[k]?

theorem Kp.refl (p : Option Addr) (w : World) : Kp p w w := ⟨rfl, rfl, rfl, Nat.le_refl _, fun _ _ _ => rfl⟩

theorem Kp.setCell {p : Option Addr} {w w' : World} (h : Kp p w w') {b o : Nat} (hp : p = some ⟨b, o, none⟩) (j : Nat) (v : Value) : Kp p w (w'.setCell ⟨b, j, none⟩ v) := by
  refine ⟨h.os, h.tape, h.output, by simpa using h.size, fun k hk hn => ?_⟩
  rw [← h.block k hk hn]
  have : b ≠ k := hn _ hp
  simp only [World.setCell, Array.getElem?_modify]
  rw [if_neg this]

theorem Kp.below {p : Option Addr} {w w' : World} {B : Nat} (h : Kp p w w') (hu : RowU B w p) (hB : B ≤ w.heap.size) : Below B w w' :=
  ⟨h.os, h.tape, h.output, h.size, fun k hk => h.block k (by omega) fun a e => by have := (hu a e).1; omega⟩

theorem Kp.at {t : TypeId} {p : Option Addr} {w w' : World} {B g : Nat} {cs : Array Value} (h : Kp p w w') (hu : RowU B w p) (ha : At t w g cs) (ht : t ≠ 5) : At t w' g cs := by
  refine (h.block g ha.lt fun a e eg => ?_).trans ha
  obtain ⟨-, cs', f, h1, -⟩ := hu a e
  rw [eg] at h1
  have := ha.symm.trans h1
  injection this with this
  injection this with _ h3
  exact ht h3

theorem Kp.nm {p : Option Addr} {w w' : World} {B0 B g b n : Nat} {m : PN} (h : Kp p w w') (hu : RowU B0 w p) (hn : NM Z w B g b n m) : NM Z w' B g b n m := by
  obtain ⟨⟨R, h1⟩, h2, h3, h4⟩ := hn
  refine ⟨⟨R, h1.same h.size (h.block g h1.blk.lt fun a e eg => ?_) (h.block b h1.map.lt fun a e eg => ?_) fun x y hxy k hk => h.block k (World.ownsRow.lt (h1.rows x y hxy) k hk).2 fun a e eg => ?_⟩, h2, h3, h4⟩
  · obtain ⟨-, cs', f, h5, -⟩ := hu a e
    rw [eg, show w.heap[g]? = _ from h1.blk] at h5
    cases h5
  · obtain ⟨-, cs', f, h5, -⟩ := hu a e
    obtain ⟨es, clock, h6, _⟩ := h1.map
    rw [eg, h6] at h5
    cases h5
  · obtain ⟨-, cs', f, h5, -⟩ := hu a e
    rcases (h1.rows x y hxy).2 with ⟨h6, _⟩ | ⟨g', cap', cur, h6, _, h7, _⟩
    · rw [h6] at hk; cases hk
    · rw [h6] at hk
      cases hk
      rw [eg, h7] at h5
      cases h5

theorem Kp.xs {p : Option Addr} {w w' : World} {B0 gx n : Nat} {m : PN} (h : Kp p w w') (hu : RowU B0 w p) (hn : XS w gx n m) : XS w' gx n m := by
  obtain ⟨q, k, c, its, hX, hk, hI⟩ := hn.so
  refine ⟨q, k, c, its, ⟨h.at hu hX.blk (by decide), hX.len, hX.rd.kept fun a e h0 => ?_, hX.off⟩, hk, hI⟩
  obtain ⟨cs, f, h1⟩ := hX.rd.row a e h0
  refine h.block a.block (Array.getElem?_eq_some_iff.1 h1).1 fun a' e' eb => ?_
  obtain ⟨-, cs', f', h2, -⟩ := hu a' e'
  rw [eb, h1] at h2
  cases h2

/-- Another slice that lies elsewhere. -/
theorem Kp.rd {p : Option Addr} {w w' : World} {q : Option Addr} {n c : Nat} {xs : List Int} (h : Kp p w w') (hr : Rd .u8 w q n c xs) (hq : ∀ a a', p = some a → q = some a' → 0 < n → a.block ≠ a'.block) : Rd .u8 w' q n c xs :=
  ⟨hr.len, hr.cap, hr.nil, fun hn => by
    obtain ⟨b, o, e, hc⟩ := hr.cells hn
    refine ⟨b, o, e, fun i hi => ?_⟩
    have h1 := hc i hi
    have hlt : b < w.heap.size := World.block_lt_of_cell? _ _ h1
    rw [← h1]
    exact World.cell?_of_block (h.block b hlt fun a ea eb => hq a _ ea e hn eb)⟩

theorem Kp.row {p : Option Addr} {w w' : World} {B0 : Nat} {q : Option Addr} (h : Kp p w w') (hr : RowU B0 w q) (hq : ∀ a a', p = some a → q = some a' → a.block ≠ a'.block) : RowU B0 w' q := fun a e => by
  obtain ⟨h0, cs, f, h1, hj⟩ := hr a e
  exact ⟨h0, cs, f, (h.block a.block (Array.getElem?_eq_some_iff.1 h1).1 fun a' e' => hq a' a e' e).trans h1, hj⟩

/-- Bytes under way of being written over. -/
structure Xo (B0 : Nat) (W0 : World) (p : Option Addr) (n c : Nat) (wr : World) : Prop where
  rd : ∃ xs, Rd .u8 wr p n c xs
  row : RowU B0 wr (pz p n)
  kp : Kp (pz p n) W0 wr

theorem Xo.one {B0 : Nat} {W0 wr : World} {p : Option Addr} {n c : Nat} (h : Xo B0 W0 p n c wr) {j : Nat} (hj : j < n) : ∃ b o v, p = some ⟨b, o, none⟩ ∧ wr.cell? ⟨b, o + j, none⟩ = some (.int .u8 v) ∧ wr.frozen? ⟨b, o + j, none⟩ = false ∧ n ≤ c ∧ ∀ u : Int, Xo B0 W0 p n c (wr.setCell ⟨b, o + j, none⟩ (.int .u8 u)) := by
  obtain ⟨xs, hr⟩ := h.rd
  obtain ⟨b, o, rfl, hc⟩ := hr.cells (by omega)
  have hp : pz (some ⟨b, o, none⟩) n = some ⟨b, o, none⟩ := by unfold pz; rw [if_pos (by omega)]
  obtain ⟨h0, cs, f, h1, hf⟩ := h.row _ hp
  have hcj := hc j hj
  have hsz : o + j < cs.size := by
    unfold World.cell? at hcj
    dsimp only at hcj h1
    rw [h1] at hcj
    exact (Array.getElem?_eq_some_iff.1 hcj).1
  have hfz : wr.frozen? ⟨b, o + j, none⟩ = false := by
    have := hf (o + j) hsz
    unfold World.frozen?
    dsimp only at h1 ⊢
    rw [h1]
    dsimp only
    rw [Bool.and_eq_false_iff, decide_eq_false_iff_not, decide_eq_false_iff_not]
    omega
  refine ⟨b, o, _, rfl, hcj, hfz, hr.cap, fun u => ⟨⟨xs.set j u, ?_⟩, fun a e => ?_, h.kp.setCell hp _ _⟩⟩
  · refine ⟨by rw [List.length_set]; exact hr.len, hr.cap, hr.nil, fun _ => ⟨b, o, rfl, fun i hi => ?_⟩⟩
    by_cases hij : i = j
    · subst hij
      rw [World.cell?_setCell_same _ _ _ hcj, List.getD_eq_getElem?_getD, List.getElem?_set_self (by rw [hr.len]; exact hi)]
      rfl
    · rw [World.cell?_setCell_other (h := fun e => hij (by have := congrArg Addr.off e; simp at this; omega)), hc i hi, List.getD_eq_getElem?_getD, List.getD_eq_getElem?_getD, List.getElem?_set_ne (Ne.symm hij)]
  · rw [hp] at e
    cases e
    refine ⟨h0, cs.setIfInBounds (o + j) (.int .u8 u), f, ?_, fun i hi => hf i (by rwa [Array.size_setIfInBounds] at hi)⟩
    have := heap_setCell_any wr b (o + j) _ _ _ (.int .u8 u) h1
    exact this

theorem Xo.start {B0 : Nat} {W0 : World} {p : Option Addr} {n c : Nat} {xs : List Int} (hr : Rd .u8 W0 p n c xs) (hu : RowU B0 W0 (pz p n)) : Xo B0 W0 p n c W0 := ⟨⟨xs, hr⟩, hu, Kp.refl _ _⟩

/-- A slice of bytes elsewhere than a block that was written. -/
theorem Rd.exn {w w' : World} {g n c : Nat} {p : Option Addr} {xs : List Int} (hr : Rd .u8 w p n c xs) (he : Ex g w w') (hne : ∀ a, p = some a → 0 < n → a.block ≠ g) : Rd .u8 w' p n c xs :=
  ⟨hr.len, hr.cap, hr.nil, fun hn => by
    obtain ⟨b, o, e, hc⟩ := hr.cells hn
    refine ⟨b, o, e, fun i hi => ?_⟩
    have h1 := hc i hi
    have hlt : b < w.heap.size := World.block_lt_of_cell? _ _ h1
    rw [← h1]
    exact World.cell?_of_block (he.block b hlt (hne _ e hn))⟩

theorem RowU.exn {w w' : World} {g B0 : Nat} {p : Option Addr} (hr : RowU B0 w p) (he : Ex g w w') (hne : ∀ a, p = some a → a.block ≠ g) : RowU B0 w' p := fun a e => by
  obtain ⟨h0, cs, f, h1, hj⟩ := hr a e
  exact ⟨h0, cs, f, (he.block a.block (Array.getElem?_eq_some_iff.1 h1).1 (hne a e)).trans h1, hj⟩

/-- The block of such a slice is no Net's. -/
theorem XS.offU {w : World} {gx n B0 : Nat} {m : PN} {p : Option Addr} (h : XS w gx n m) (hu : RowU B0 w p) : ∀ a, p = some a → a.block ≠ gx := fun a e eg => by
  obtain ⟨q, k, c, its, hX, _⟩ := h.so
  obtain ⟨-, cs, f, h1, -⟩ := hu a e
  rw [eg, show w.heap[gx]? = _ from hX.blk] at h1
  cases h1

theorem pz_some {p : Option Addr} {n : Nat} {a : Addr} (e : pz p n = some a) : p = some a := by
  unfold pz at e
  split at e
  · exact e
  · cases e

theorem pz_pos {p : Option Addr} {n : Nat} (h : 0 < n) : pz p n = p := by unfold pz; rw [if_pos h]

theorem Rd.exx {w w' : World} {gx nx n c B0 : Nat} {m : PN} {p : Option Addr} {xs : List Int} (hr : Rd .u8 w p n c xs) (hu : RowU B0 w (pz p n)) (hx : XS w gx nx m) (he : Ex gx w w') : Rd .u8 w' p n c xs ∧ RowU B0 w' (pz p n) :=
  ⟨hr.exn he fun a e h0 => hx.offU hu a (by rw [pz_pos h0]; exact e), hu.exn he (hx.offU hu)⟩

theorem Rd.belF {w w' : World} {B g b k n c B0 : Nat} {m : PN} {p : Option Addr} {xs : List Int} (hr : Rd .u8 w p n c xs) (hu : RowU B0 w (pz p n)) (hN : NM Z w B g b k m) (hF : BelF Z B g b w w') : Rd .u8 w' p n c xs ∧ RowU B0 w' (pz p n) := by
  obtain ⟨⟨R, h1⟩, _⟩ := hN
  by_cases hn : 0 < n
  · rw [pz_pos hn] at hu ⊢
    exact BelF.rd h1 hF hr hu
  · exact ⟨⟨hr.len, hr.cap, hr.nil, fun h => absurd h hn⟩, fun a e => by unfold pz at e; rw [if_neg hn] at e; cases e⟩

/-- What Peek tells. -/
def pkS (m : PN) (x y i : Int) : ByteArray × Int := if 0 ≤ i ∧ i < (m.N x y).length then ((m.N x y).getD i.toNat ByteArray.empty, 0) else ({ data := #[] }, 40)

theorem nPeekA {w : World} {B g b n : Nat} {m : PN} (h : NM Z w B g b n m) {x y : Int} (hx : Wf x) (hy : Wf y) (i : Int) :
    Calls Try.prog 15 #[.pointer (some ⟨g, 0, none⟩), .agg #[.int .i64 x, .int .i64 y], .int .i64 i] w fun o w' => (∃ p m' c, o = .returned (.tuple #[.slice p m' c, .int .i64 (pkS m x y i).2]) ∧ Rd .u8 w' p m' c (numsOf (pkS m x y i).1) ∧ RowU w.heap.size w' p) ∧ Below w.heap.size w w' := by
  unfold pkS
  by_cases hi : 0 ≤ i ∧ i < (m.N x y).length
  · rw [if_pos hi]
    obtain ⟨j, rfl⟩ := Int.eq_ofNat_of_zero_le hi.1
    exact PeekN_ok h hx hy j (by omega) rfl
  · rw [if_neg hi]
    obtain ⟨⟨R, h1⟩, _⟩ := h
    refine (Peek_bad h1 hx hy i hi).mono ?_
    rintro o w' ⟨rfl, hb⟩
    exact ⟨⟨none, 0, 0, rfl, ⟨rfl, Nat.le_refl _, fun _ => rfl, fun h => absurd h (Nat.lt_irrefl _)⟩, fun _ e => by cases e⟩, hb⟩

theorem xPeekA {w : World} {gx n : Nat} {m : PN} (h : XS w gx n m) (hn : n ≤ 1000000) (x y i : Int) :
    Calls Try.prog 16 #[.pointer (some ⟨gx, 0, none⟩), .agg #[.int .i64 x, .int .i64 y], .int .i64 i] w fun o w' => o = .returned (.tuple #[.string (pkS m x y i).1, .int .i64 (pkS m x y i).2]) ∧ Below w.heap.size w w' := by
  unfold pkS
  by_cases hi : 0 ≤ i ∧ i < (m.N x y).length
  · rw [if_pos hi]
    obtain ⟨j, rfl⟩ := Int.eq_ofNat_of_zero_le hi.1
    exact xPeek_ok h hn x y j (by omega) rfl
  · rw [if_neg hi]
    exact xPeek_no h hn x y i hi

theorem nums_ans (a : Ans) : (if a.ok = true then numsOf a.msg else []) = numsOf (if a.ok = true then a.msg else { data := #[] }) := by
  split <;> rfl

end Go.Proofs.Ytmnipfdcbmamnaa.M
