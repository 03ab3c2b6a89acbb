/-
  Own text: rows that may be written over; clones in memory of their own; what the law DiskPlays needs of both disks.
-/
import Derived.Test.YtcgpdaalehgjdaaRAlso
import Derived.Test.YtcgpdaalehgjdaaDTw
namespace Go.Proofs.Ytcgpdaalehgjdaa.M
open Go.ChangeShapes Go.WideShapes Go.ChangeAt Go.RowKit

/-- A row of n integers that may be written over. -/
structure Mut (k : IntKind) (w : World) (b n : Nat) : Prop where
  cells : ∀ j, j < n → ∃ v : Int, w.cell? ⟨b, j, none⟩ = some (.int k v)
  free : ∀ j, w.frozen? ⟨b, j, none⟩ = false

theorem Mut.ch {S : Nat → Prop} {k : IntKind} {w w' : World} {b n : Nat} (h : Mut k w b n) (h0 : 0 < n) (hc : Ch S w w') (hS : ¬ S b) : Mut k w' b n := by
  obtain ⟨v0, h1⟩ := h.cells 0 h0
  have hlt := World.block_lt_of_cell? _ _ h1
  exact ⟨fun j hj => by rw [hc.cell (p := ⟨b, j, none⟩) hlt hS]; exact h.cells j hj, fun j => by rw [hc.frozen (p := ⟨b, j, none⟩) hlt hS]; exact h.free j⟩

theorem Mut.set {k : IntKind} {w : World} {b n : Nat} (h : Mut k w b n) (i : Nat) (x : Int) : Mut k (w.setCell ⟨b, i, none⟩ (.int k x)) b n := by
  refine ⟨fun j hj => ?_, fun j => by rw [World.frozen?_setCell]; exact h.free j⟩
  obtain ⟨v, hv⟩ := h.cells j hj
  by_cases e : j = i
  · subst e
    exact ⟨x, World.cell?_setCell_same _ _ _ hv⟩
  · exact ⟨v, by rw [World.cell?_setCell_other (h := fun e2 => e (congrArg Addr.off e2).symm)]; exact hv⟩

theorem OwS.mut {k : IntKind} {e : TypeId} {w : World} {B : Nat} {p : Option Addr} {n c : Nat} {xs : List Int} (h : OwS k e w B p n c xs) (h0 : 0 < n) : ∃ b, p = some ⟨b, 0, none⟩ ∧ B ≤ b ∧ b < w.heap.size ∧ Mut k w b n := by
  have h' := h
  rcases h.2 with ⟨_, h2⟩ | ⟨g, cap, cur, hv, hg, hh, _⟩
  · omega
  · injection hv with e1 e2 e3
    subst e1
    refine ⟨g, rfl, hg, (Array.getElem?_eq_some_iff.1 hh).1, fun j hj => ?_, fun j => ?_⟩
    · obtain ⟨b, o, e4, hc⟩ := h'.rd.cells h0
      injection e4 with e4
      injection e4 with e5 e6 e7
      subst e5 e6
      have := hc j hj
      rw [Nat.zero_add] at this
      exact ⟨_, this⟩
    · unfold World.frozen?
      dsimp only
      rw [hh]
      simp

set_option maxRecDepth 20000 in
theorem sclone_own (p : Option Addr) (n c : Nat) (xs : List Int) (w : World) (hr : Rd .u8 w p n c xs) (hn : n ≤ 1099511627776) :
    Calls Try.prog 13 #[.slice p n c] w fun e w' => ∃ p' c', e = .returned (.slice p' n c') ∧ OwS .u8 5 w' w.heap.size p' n c' xs ∧ Below w.heap.size w w' := by
  have q22 : ∀ (w : World) (a : Option Addr) (n c n' c' : Nat), (binOp .eql 32 (.slice a n c) (.slice none n' c')).run Try.prog w = .ok (.bool a.isNone) w := fun w a n c n' c' => Lib.run_eql_slice_nil w _ _ a n c n' c' Try.underlying32
  obtain ⟨i0, hi0, hz0, hz1, hz2⟩ := info_parts infoU8
  cases p with
  | none =>
    have hn0 : n = 0 := by have := hr.cap; have := hr.nil rfl; omega
    subst hn0
    have hc0 := hr.nil rfl
    subst hc0
    obtain rfl : xs = [] := List.length_eq_zero_iff.1 hr.len
    go_enter Try.func13, Try.ntmps13
    go_wp2_with fail
    go_ret
    exact ⟨none, 0, rfl, OwS.nil _ _ _ _, Below.refl _ _⟩
  | some ad =>
    have hba := (Below.refl w.heap.size w).alloc (Nat.le_refl _) (.cells #[] 5)
    have hra := hr.below' hba
    have ho : OwS .u8 5 (w.alloc (.cells #[] 5)) w.heap.size (some ⟨w.heap.size, 0, none⟩) 0 0 [] := World.ownsRow_made w #[] 0 (Nat.le_refl _) (Nat.zero_le _) rfl
    clear hr
    go_enter Try.func13, Try.ntmps13
    go_wp2_with (refine wpList_app2 _ rfl (.tmp 5) (.tmp 6) 32 rfl .u8 5 i0 (.int .u8 0) 1 Try.underlying32 hi0 hz0 hz1 hz2 rfl w.heap.size _ 0 0 [] rfl ho (some ad) n c xs rfl hra ?c1 ?c2 ?c3 ?_)
    case c1 => omega
    case c2 => unfold maxLen; omega
    case c3 => simp
    intro p' c' w' h1 hg
    have hch := hg.ch (fun k => w.heap.size ≤ k) (fun x e => by cases e; exact Nat.le_refl _)
    have hb2 : Below w.heap.size (w.alloc (.cells #[] 5)) w' := hch.below (by simp) (fun k e => e)
    clear hg hch
    go_wp2_with fail
    go_ret
    exact ⟨p', c', rfl, by simpa using h1, hba.trans hb2⟩

set_option maxRecDepth 20000 in
theorem iclone_own (p : Option Addr) (n c : Nat) (xs : List Int) (w : World) (hr : Rd .i64 w p n c xs) (hn : n ≤ 1099511627776) :
    Calls Try.prog 14 #[.slice p n c] w fun e w' => ∃ p' c', e = .returned (.slice p' n c') ∧ OwS .i64 3 w' w.heap.size p' n c' xs ∧ Below w.heap.size w w' := by
  have q22 : ∀ (w : World) (a : Option Addr) (n c n' c' : Nat), (binOp .eql 33 (.slice a n c) (.slice none n' c')).run Try.prog w = .ok (.bool a.isNone) w := fun w a n c n' c' => Lib.run_eql_slice_nil w _ _ a n c n' c' Try.underlying33
  obtain ⟨i0, hi0, hz0, hz1, hz2⟩ := info_parts infoI
  cases p with
  | none =>
    have hn0 : n = 0 := by have := hr.cap; have := hr.nil rfl; omega
    subst hn0
    have hc0 := hr.nil rfl
    subst hc0
    obtain rfl : xs = [] := List.length_eq_zero_iff.1 hr.len
    go_enter Try.func14, Try.ntmps14
    go_wp2_with fail
    go_ret
    exact ⟨none, 0, rfl, OwS.nil _ _ _ _, Below.refl _ _⟩
  | some ad =>
    have hba := (Below.refl w.heap.size w).alloc (Nat.le_refl _) (.cells #[] 3)
    have hra := hr.below' hba
    have ho : OwS .i64 3 (w.alloc (.cells #[] 3)) w.heap.size (some ⟨w.heap.size, 0, none⟩) 0 0 [] := World.ownsRow_made w #[] 0 (Nat.le_refl _) (Nat.zero_le _) rfl
    clear hr
    go_enter Try.func14, Try.ntmps14
    go_wp2_with (refine wpList_app2 _ rfl (.tmp 5) (.tmp 6) 33 rfl .i64 3 i0 (.int .i64 0) 8 Try.underlying33 hi0 hz0 hz1 hz2 rfl w.heap.size _ 0 0 [] rfl ho (some ad) n c xs rfl hra ?c1 ?c2 ?c3 ?_)
    case c1 => omega
    case c2 => unfold maxLen; omega
    case c3 => simp
    intro p' c' w' h1 hg
    have hch := hg.ch (fun k => w.heap.size ≤ k) (fun x e => by cases e; exact Nat.le_refl _)
    have hb2 : Below w.heap.size (w.alloc (.cells #[] 3)) w' := hch.below (by simp) (fun k e => e)
    clear hg hch
    go_wp2_with fail
    go_ret
    exact ⟨p', c', rfl, by simpa using h1, hba.trans hb2⟩

set_option maxRecDepth 20000 in
theorem Read_own (w : World) (B : Nat) (own : Nat → Nat) (a g : Nat) (d : Dk) (m : PD) (h : DA w B own a g d m) (hr : 0 < m.room) (hw : m.down = false) (hm : m.few) (i : Nat) (hi : i < 8) :
    Calls Try.prog 19 #[.pointer (some ⟨g, 0, none⟩), .int .i64 i] w fun e w' => ∃ p' c', e = .returned (.tuple #[.slice p' (m.f i).told.length c', .int .i64 0]) ∧ OwS .u8 5 w' w.heap.size p' (m.f i).told.length c' (m.f i).told ∧ Below w.heap.size w w' := by
  have hF := file_ok w g d h.dc (by rw [h.room]; exact hr) (h.down.trans hw) i hi
  have hct := h.dc.told hi
  have htn := fl_tn h hi
  have hC := bclone_own _ _ _ _ w (h.fm i hi).told.rd (by rw [htn]; have := hm.told i hi; omega)
  rw [htn] at hC hct
  clear h htn
  generalize (m.f i).told = xs at *
  generalize hln : xs.length = n at *
  clear hln
  generalize d.fl i = fl at *
  obtain ⟨tp, tn, tc, lp, ln, lc, cl⟩ := fl
  dsimp only at *
  go_enter Try.func19, Try.ntmps19
  go_wp2_with fail
  refine hF.mono ?_
  rintro e w1 ⟨rfl, rfl⟩
  go_wp2_with fail
  refine hC.mono ?_
  rintro e w2 ⟨p', c', rfl, h1, h2⟩
  go_wp2_with fail
  go_ret2
  exact ⟨p', c', rfl, h1, h2⟩

/-- What was synced is a beginning of what is told. -/
theorem DA.pre {w : World} {B : Nat} {own : Nat → Nat} {a g : Nat} {d : Dk} {m : PD} (h : DA w B own a g d m) : m.pre := fun i hi hc => (h.fm i hi).begins ((h.cl i hi).trans hc)

/-- Both disks, apart from one another. -/
structure Both (w : World) (B g gr : Nat) (own : Nat → Nat) (d : Dk) (k : Sl) (m : PD) : Prop where
  da : DA w B own 1 g d m
  rd : RD w gr m k
  ogr : own gr = farM
  ne : gr ≠ g
  low : ∀ j, j < B → own j = 0
  kp : ∀ x, k.p = some x → 0 < k.n → own x.block = 0 ∧ x.block ≠ g

theorem Both.below {w w' : World} {B g gr : Nat} {own : Nat → Nat} {d : Dk} {k : Sl} {m : PD} (h : Both w B g gr own d k m) (hb : Below w.heap.size w w') : Both w' B g gr own d k m := ⟨h.da.below hb, h.rd.below hb, h.ogr, h.ne, h.low, h.kp⟩

/-- Over a change of a block that is new to both. -/
theorem Both.apart {w w' : World} {B g gr : Nat} {own : Nat → Nat} {d : Dk} {k : Sl} {m : PD} (h : Both w B g gr own d k m) {b : Nat} (hc : Ch (fun j => j = b) w w') (h1 : b ≠ g) (h2 : b ≠ gr) (h3 : ∀ i, i < 8 → own b ≠ mark 1 i) (h4 : ∀ x, d.kp = some x → x.block ≠ b) (h5 : ∀ x, k.p = some x → 0 < k.n → x.block ≠ b) : Both w' B g gr own d k m :=
  ⟨h.da.ch hc (fun e => h1 e.symm) (fun i j hi hj e => by rw [e] at hj; exact h3 i hi hj) (fun x e => h4 x e) (fun _ _ => rfl) (fun j hj => h.da.fr j (Nat.le_trans hc.size hj)), ⟨h.rd.rc.ch hc (fun e => h2 e.symm), h.rd.keep.ch0 hc (fun x e h0 => h5 x e h0), h.rd.ne⟩, h.ogr, h.ne, h.low, h.kp⟩

/-- The program's disk does something. -/
theorem Both.step {w w' : World} {B g gr : Nat} {own : Nat → Nat} {d : Dk} {k : Sl} {m m' : PD} (h : Both w B g gr own d k m) (hA : After B 1 g own w w' m') : ∃ own' d', DA w' B own' 1 g d' m' ∧ RD w' gr m k ∧ own' gr = farM ∧ (∀ j, j < B → own' j = 0) ∧ (∀ x, k.p = some x → 0 < k.n → own' x.block = 0 ∧ x.block ≠ g) ∧ (∀ j, j < w.heap.size → own' j = own j) ∧ Ch (Mine own 1 g) w w' := by
  obtain ⟨own', d', hD, ho, hc⟩ := hA
  have hlt := h.rd.rc.lt
  have hgr : ¬ Mine own 1 g gr := by
    rintro (e | ⟨i, hi, e⟩)
    · exact h.ne e
    · rw [h.ogr] at e
      unfold mark farM at e
      omega
  refine ⟨own', d', hD, ⟨h.rd.rc.ch hc hgr, h.rd.keep.ch0 hc (fun x e h0 => not_mine (h.kp x e h0).2 (h.kp x e h0).1), h.rd.ne⟩, (ho gr hlt).trans h.ogr, fun j hj => (ho j (by have := h.da.bg; have := h.da.dc.lt; omega)).trans (h.low j hj), fun x e h0 => ⟨(ho _ (h.rd.keep.blk e h0)).trans (h.kp x e h0).1, (h.kp x e h0).2⟩, ho, hc⟩

end Go.Proofs.Ytcgpdaalehgjdaa.M
