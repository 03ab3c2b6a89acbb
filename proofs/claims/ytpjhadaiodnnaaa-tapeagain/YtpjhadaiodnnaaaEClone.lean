/-
  Own text: contracts of bytes.Clone (in memory of its own), of a fuse's clone and of a file's.
-/
import Derived.Test.YtpjhadaiodnnaaaTOpn
namespace Go.Proofs.Ytpjhadaiodnnaaa.M
open Go.ChangeShapes Go.WideShapes Go.ChangeAt Go.RowKit

set_option maxRecDepth 20000 in
theorem bclone_own (p : Option Addr) (n c : Nat) (xs : List Int) (w : World) (hr : Rd .u8 w p n c xs) (hn : n ≤ 1099511627776) :
    Calls Try.prog 61 #[.slice p n c] w fun e w' => ∃ p' c', e = .returned (.slice p' n c') ∧ OwS .u8 5 w' w.heap.size p' n c' xs ∧ Below w.heap.size w w' := by
  have q22 : ∀ (w : World) (a : Option Addr) (n c n' c' : Nat), (binOp .eql 22 (.slice a n c) (.slice none n' c')).run Try.prog w = .ok (.bool a.isNone) w := fun w a n c n' c' => Lib.run_eql_slice_nil w _ _ a n c n' c' Try.underlying22
  obtain ⟨i0, hi0, hz0, hz1, hz2⟩ := info_parts infoU8
  cases p with
  | none =>
    have hn0 : n = 0 := by have := hr.cap; have := hr.nil rfl; omega
    subst hn0
    have hc0 := hr.nil rfl
    subst hc0
    obtain rfl : xs = [] := List.length_eq_zero_iff.1 hr.len
    go_enter Try.func61, Try.ntmps61
    go_wp2_with fail
    go_ret
    exact ⟨none, 0, rfl, OwS.nil _ _ _ _, Below.refl _ _⟩
  | some ad =>
    have hba := (Below.refl w.heap.size w).alloc (Nat.le_refl _) (.cells #[] 5)
    have hra := hr.below' hba
    have ho : OwS .u8 5 (w.alloc (.cells #[] 5)) w.heap.size (some ⟨w.heap.size, 0, none⟩) 0 0 [] := World.ownsRow_made w #[] 0 (Nat.le_refl _) (Nat.zero_le _) rfl
    clear hr
    go_enter Try.func61, Try.ntmps61
    go_wp2_with (refine wpList_app2 _ rfl (.tmp 5) (.tmp 6) 22 rfl .u8 5 i0 (.int .u8 0) 1 Try.underlying22 hi0 hz0 hz1 hz2 rfl w.heap.size _ 0 0 [] rfl ho (some ad) n c xs rfl hra ?c1 ?c2 ?c3 ?_)
    case c1 => omega
    case c2 => unfold maxLen; omega
    case c3 => simp
    intro p' c' w' h1 hg
    have hch := hg.ch (fun k => w.heap.size ≤ k) (fun x e => by cases e; exact Nat.le_refl _)
    have hb2 : Below w.heap.size (w.alloc (.cells #[] 5)) w' := hch.below (by simp) (fun k e => e)
    clear hg hch
    go_wp2_with fail
    go_ret
    exact ⟨p', c', rfl, by simpa using h1, hba.trans hb2⟩

theorem OwS.lower {k : IntKind} {e : TypeId} {w : World} {B B' : Nat} {p : Option Addr} {n c : Nat} {xs : List Int} (h : OwS k e w B p n c xs) (hB : B' ≤ B) : OwS k e w B' p n c xs := ownsRow_lower h hB

theorem OwS.below {k : IntKind} {e : TypeId} {w w' : World} {B : Nat} {p : Option Addr} {n c : Nat} {xs : List Int} (h : OwS k e w B p n c xs) (hb : Below w.heap.size w w') : OwS k e w' B p n c xs := h.ch (Ch.of_below hb (fun _ => False)) (fun _ _ e => e)

/-- While a fuse is cloned: from block b into block r. -/
def GS (w : World) (b o r : Nat) (n : Int) (q : Option Addr) (l c : Nat) (ks : List Int) (V : World) : Prop :=
  V.cell? ⟨b, o, none⟩ = some (.int .i64 n) ∧ V.cell? ⟨b, o + 1, none⟩ = some (.slice q l c) ∧ Rd .i64 V q l c ks ∧ V.heap[r]? = some (.cells #[.int .i64 0, .slice none 0 0] 83 (0, 0)) ∧ w.heap.size ≤ r ∧ r < w.heap.size + 1 ∧ Below w.heap.size w V

theorem GS.stays (w : World) (b o r : Nat) (n : Int) (q : Option Addr) (l c : Nat) (ks : List Int) : Stays (GS w b o r n q l c ks) := fun _ _ h hb =>
  ⟨by rw [hb.cell (p := ⟨b, o, none⟩) (World.block_lt_of_cell? _ _ h.1)]; exact h.1, by rw [hb.cell (p := ⟨b, o + 1, none⟩) (World.block_lt_of_cell? _ _ h.2.1)]; exact h.2.1, h.2.2.1.below' hb, by rw [hb.block r (Array.getElem?_eq_some_iff.1 h.2.2.2.1).1]; exact h.2.2.2.1, h.2.2.2.2.1, h.2.2.2.2.2.1, h.2.2.2.2.2.2.trans (hb.mono h.2.2.2.2.2.2.size)⟩

theorem GSR.stays (w : World) (b o r : Nat) (n : Int) (q : Option Addr) (l c : Nat) (ks : List Int) (p' : Option Addr) (c' : Nat) : Stays (fun U => GS w b o r n q l c ks U ∧ Rd .i64 U p' l c' ks ∧ (∀ x, p' = some x → r < x.block ∧ x.block < U.heap.size)) := fun U U' h hb =>
  ⟨GS.stays w b o r n q l c ks U U' h.1 hb, h.2.1.below' hb, fun x e => ⟨(h.2.2 x e).1, Nat.lt_of_lt_of_le (h.2.2 x e).2 hb.size⟩⟩

set_option linter.unusedSimpArgs false in
set_option maxRecDepth 20000 in
theorem fclone_at (w : World) (b o : Nat) (n : Int) (q : Option Addr) (l c : Nat) (ks : List Int) (h0 : w.cell? ⟨b, o, none⟩ = some (.int .i64 n)) (h1 : w.cell? ⟨b, o + 1, none⟩ = some (.slice q l c)) (hr : Rd .i64 w q l c ks) (hl : l ≤ 1099511627776) :
    Calls Try.prog 52 #[.pointer (some ⟨b, o, none⟩)] w fun e w' => ∃ p' c', e = .returned (.agg #[.int .i64 n, .slice p' l c']) ∧ Rd .i64 w' p' l c' ks ∧ Below w.heap.size w w' ∧ (∀ x, p' = some x → w.heap.size ≤ x.block ∧ x.block < w'.heap.size) := by
  have hb1 : Below w.heap.size w (w.alloc (.cells #[.int .i64 0, .slice none 0 0] 83)) := (Below.refl _ _).alloc (Nat.le_refl _) _
  obtain ⟨r, hrr⟩ : ∃ r, r = w.heap.size := ⟨_, rfl⟩
  have hS0 : GS w b o r n q l c ks (w.alloc (.cells #[.int .i64 0, .slice none 0 0] 83)).drew := GS.stays w b o r n q l c ks _ _ ⟨by rw [hb1.cell (p := ⟨b, o, none⟩) (World.block_lt_of_cell? _ _ h0)]; exact h0, by rw [hb1.cell (p := ⟨b, o + 1, none⟩) (World.block_lt_of_cell? _ _ h1)]; exact h1, hr.below' hb1, by rw [hrr]; exact heap_alloc_new _ _, by omega, by omega, hb1⟩ (Below.refl _ _).drew
  have HR : Hid (r = w.heap.size) := hrr
  clear h0 h1 hr hb1
  go_enter Try.func52, Try.ntmps52
  go_wp2_with fail
  rw [← hrr]
  clear hrr
  refine wp_region_det [0, 1, 2, 3, 4, 5, 6, 7, 9] (GS w b o r n q l c ks) (GS w b o r n q l c ks) (by kernel_rfl) hS0 ?_
  refine wpDet_take ?vF0 (GS.stays w b o r n q l c ks) (fun _ h => h) (i := 0) rfl (by kernel_rfl) (by kernel_rfl) (by kernel_rfl) (by kernel_rfl) (fun _ _ _ h => h) (Gives.value (by rfl) ?yF0) ?rF0
  case yF0 => (intro w' hSw; (try dsimp only at hSw); go_simp; try with_reducible rfl)
  (try simp only [Act.put, List.getElem_toArray, List.getElem_cons_zero, List.getElem_cons_succ, List.setIfInBounds_toArray, List.set_cons_zero, List.set_cons_succ])
  refine wpDet_take ?vF1 (GS.stays w b o r n q l c ks) (fun _ h => h) (i := 1) rfl (by kernel_rfl) (by kernel_rfl) (by kernel_rfl) (by kernel_rfl) (fun _ _ _ h => h) (Gives.value (by rfl) ?yF1) ?rF1
  case yF1 => (intro w' hSw; (try dsimp only at hSw); go_simp; try with_reducible rfl)
  (try simp only [Act.put, List.getElem_toArray, List.getElem_cons_zero, List.getElem_cons_succ, List.setIfInBounds_toArray, List.set_cons_zero, List.set_cons_succ])
  refine wpDet_take ?vF2 (GS.stays w b o r n q l c ks) (fun _ h => h) (i := 2) rfl (by kernel_rfl) (by kernel_rfl) (by kernel_rfl) (by kernel_rfl) (fun _ _ _ h => h) (Gives.value (by rfl) ?yF2) ?rF2
  case yF2 => (intro w' hSw; (try dsimp only at hSw); go_simp; try with_reducible rfl)
  (try simp only [Act.put, List.getElem_toArray, List.getElem_cons_zero, List.getElem_cons_succ, List.setIfInBounds_toArray, List.set_cons_zero, List.set_cons_succ])
  refine wpDet_take ?vF3 (GS.stays w b o r n q l c ks) (fun _ h => h) (i := 3) rfl (by kernel_rfl) (by kernel_rfl) (by kernel_rfl) (by kernel_rfl) (fun _ _ _ h => h) (Gives.value (by rfl) ?yF3) ?rF3
  case yF3 => (intro w' hSw; have hq0 := hSw.1; (try dsimp only at hSw); go_simp; try with_reducible rfl)
  (try simp only [Act.put, List.getElem_toArray, List.getElem_cons_zero, List.getElem_cons_succ, List.setIfInBounds_toArray, List.set_cons_zero, List.set_cons_succ])
  refine wpDet_take ?vF4 (GS.stays w b o r n q l c ks) (fun _ h => h) (i := 4) rfl (by kernel_rfl) (by kernel_rfl) (by kernel_rfl) (by kernel_rfl) (fun _ _ _ h => h) (Gives.value (by rfl) ?yF4) ?rF4
  case yF4 => (intro w' hSw; (try dsimp only at hSw); go_simp; try with_reducible rfl)
  (try simp only [Act.put, List.getElem_toArray, List.getElem_cons_zero, List.getElem_cons_succ, List.setIfInBounds_toArray, List.set_cons_zero, List.set_cons_succ])
  refine wpDet_take ?vF5 (GS.stays w b o r n q l c ks) (fun _ h => h) (i := 5) rfl (by kernel_rfl) (by kernel_rfl) (by kernel_rfl) (by kernel_rfl) (fun _ _ _ h => h) (Gives.value (by rfl) ?yF5) ?rF5
  case yF5 => (intro w' hSw; (try dsimp only at hSw); go_simp; try with_reducible rfl)
  (try simp only [Act.put, List.getElem_toArray, List.getElem_cons_zero, List.getElem_cons_succ, List.setIfInBounds_toArray, List.set_cons_zero, List.set_cons_succ])
  refine wpDet_take ?vF6 (GS.stays w b o r n q l c ks) (fun _ h => h) (i := 6) rfl (by kernel_rfl) (by kernel_rfl) (by kernel_rfl) (by kernel_rfl) (fun _ _ _ h => h) (Gives.value (by rfl) ?yF6) ?rF6
  case yF6 => (intro w' hSw; (try dsimp only at hSw); go_simp; try with_reducible rfl)
  (try simp only [Act.put, List.getElem_toArray, List.getElem_cons_zero, List.getElem_cons_succ, List.setIfInBounds_toArray, List.set_cons_zero, List.set_cons_succ])
  refine wpDet_take ?vF7 (GS.stays w b o r n q l c ks) (fun _ h => h) (i := 7) rfl (by kernel_rfl) (by kernel_rfl) (by kernel_rfl) (by kernel_rfl) (fun _ _ _ h => h) (Gives.value (by rfl) ?yF7) ?rF7
  case yF7 => (intro w' hSw; have hq0 := hSw.2.1; (try dsimp only at hSw); go_simp; try with_reducible rfl)
  (try simp only [Act.put, List.getElem_toArray, List.getElem_cons_zero, List.getElem_cons_succ, List.setIfInBounds_toArray, List.set_cons_zero, List.set_cons_succ])
  refine wpDet_ready (rs := [8]) (by kernel_rfl) (by simp) (AllDet.cons rfl (fun V hV K hK => ?_) AllDet.nil)
  rw [if_pos (by rfl)]
  have hC := iclone_any q l c ks V hV.2.2.1 hl
  have hrV := (Array.getElem?_eq_some_iff.1 hV.2.2.2.1).1
  refine wp_enterX 79 #[.slice q l c] (by first | (go_simp; done) | (go_simp; rfl)) (fun v V' => ∃ p' c', v = .slice p' l c' ∧ Rd .i64 V' p' l c' ks ∧ Below V.heap.size V V' ∧ (∀ x, p' = some x → V.heap.size ≤ x.block ∧ x.block < V'.heap.size)) (hC.mono fun e V' ⟨p', c', h1, h2⟩ => ⟨_, h1, p', c', rfl, h2⟩) ?_
  rintro v V' ⟨p', c', rfl, h2, h3, h4⟩
  have hst := GS.stays w b o r n q l c ks V V' hV h3
  refine hK.out (fun U => GS w b o r n q l c ks U ∧ Rd .i64 U p' l c' ks ∧ (∀ x, p' = some x → r < x.block ∧ x.block < U.heap.size)) _ _ (GSR.stays w b o r n q l c ks p' c') (fun _ _ h => h.1) ⟨hst, h2, fun x e => ⟨Nat.lt_of_lt_of_le hrV (h4 x e).1, (h4 x e).2⟩⟩ ?_
  clear hK K hC hV h2 h3 h4 hst hrV
  (try simp only [Act.put, List.getElem_toArray, List.getElem_cons_zero, List.getElem_cons_succ, List.setIfInBounds_toArray, List.set_cons_zero, List.set_cons_succ])
  refine wpDet_take ?vF9 (GSR.stays w b o r n q l c ks p' c') (fun _ h => h.1) (i := 9) rfl (by kernel_rfl) (by kernel_rfl) (by kernel_rfl) (by kernel_rfl) (fun _ _ _ h => h) (Gives.value (by rfl) ?yF9) ?rF9
  case yF9 => (intro w' hSw; (try dsimp only at hSw); go_simp; try with_reducible rfl)
  (try simp only [Act.put, List.getElem_toArray, List.getElem_cons_zero, List.getElem_cons_succ, List.setIfInBounds_toArray, List.set_cons_zero, List.set_cons_succ])
  refine wpDet_ready (rs := [10]) (by kernel_rfl) (by simp) (AllDet.cons rfl (fun V hV K hK => ?_) AllDet.nil)
  rw [if_pos (by rfl)]
  refine wp_store_row 83 _ _ rfl r #[.int .i64 n, .slice p' l c'] rfl rfl _ _ hV.1.2.2.2.1 sizeFu rfl (oneFu _ _ _ _) ?_
  have hb9 := hV.1.2.2.2.2.2.2.trans (below_setRow2 V r #[.int .i64 n, .slice p' l c'] hV.1.2.2.2.2.1)
  have hr9 := hV.2.1.ch (S := fun k => k = r) (ch_setRow V r #[.int .i64 n, .slice p' l c']) (fun x e e2 => absurd (hV.2.2 x e).1 (by rw [e2]; exact Nat.lt_irrefl _))
  refine hK.out (FE w r n l ks p' c') _ _ (FE.stays w r n l ks p' c') (no_lean (by kernel_rfl)) ⟨row_setRow V r _ hV.1.2.2.2.1, hr9, hb9, fun x e => ⟨Nat.le_trans hV.1.2.2.2.2.1 (Nat.le_of_lt (hV.2.2 x e).1), Nat.lt_of_lt_of_le (hV.2.2 x e).2 (ch_setRow V r _).size⟩⟩ ?_
  clear hK K hV hb9 hr9
  (try simp only [Act.put, List.getElem_toArray, List.getElem_cons_zero, List.getElem_cons_succ, List.setIfInBounds_toArray, List.set_cons_zero, List.set_cons_succ])
  refine wpDet_done (by kernel_rfl) (fun w8 hV => ?_) _
  obtain ⟨hrow, hrd, hbl, hfr⟩ := hV
  go_wp2_with fail
  exact bodyPost_ret (results_cell_row (p := 2) rfl _ _ r _ _ _ _ rfl hrow Try.underlying83 rfl sizeFu) rfl ⟨p', c', rfl, hrd, hbl, hfr⟩

theorem sizeFi : (Try.prog.info? 80).map (·.size) = some 3 := by kernel_rfl

theorem oneFi (p : Option Addr) (l c : Nat) (q : Option Addr) (m d : Nat) (b : Bool) : (#[.slice p l c, .slice q m d, .bool b] : Array Value).all (·.oneCell') = true := by simp [Value.oneCell']

/-- While a file is cloned. -/
def HS (w : World) (b o r : Nat) (f : Fl) (xs ys : List Int) (V : World) : Prop :=
  V.cell? ⟨b, o, none⟩ = some (.slice f.tp f.tn f.tc) ∧ V.cell? ⟨b, o + 1, none⟩ = some (.slice f.lp f.ln f.lc) ∧ V.cell? ⟨b, o + 2, none⟩ = some (.bool f.cl) ∧ Rd .u8 V f.tp f.tn f.tc xs ∧ Rd .u8 V f.lp f.ln f.lc ys ∧ V.heap[r]? = some (.cells #[.slice none 0 0, .slice none 0 0, .bool false] 80 (0, 0)) ∧ w.heap.size ≤ r ∧ Below w.heap.size w V

theorem HS.stays (w : World) (b o r : Nat) (f : Fl) (xs ys : List Int) : Stays (HS w b o r f xs ys) := fun _ _ h hb =>
  ⟨by rw [hb.cell (p := ⟨b, o, none⟩) (World.block_lt_of_cell? _ _ h.1)]; exact h.1, by rw [hb.cell (p := ⟨b, o + 1, none⟩) (World.block_lt_of_cell? _ _ h.2.1)]; exact h.2.1, by rw [hb.cell (p := ⟨b, o + 2, none⟩) (World.block_lt_of_cell? _ _ h.2.2.1)]; exact h.2.2.1, h.2.2.2.1.below' hb, h.2.2.2.2.1.below' hb, by rw [hb.block r (Array.getElem?_eq_some_iff.1 h.2.2.2.2.2.1).1]; exact h.2.2.2.2.2.1, h.2.2.2.2.2.2.1, h.2.2.2.2.2.2.2.trans (hb.mono h.2.2.2.2.2.2.2.size)⟩

theorem HS1.stays (w : World) (b o r : Nat) (f : Fl) (xs ys : List Int) (p1 : Option Addr) (c1 : Nat) : Stays (fun U => HS w b o r f xs ys U ∧ OwS .u8 5 U r p1 f.tn c1 xs ∧ (∀ x, p1 = some x → r < x.block)) := fun U U' h hb =>
  ⟨HS.stays w b o r f xs ys U U' h.1 hb, h.2.1.below hb, h.2.2⟩

theorem HS2.stays (w : World) (b o r : Nat) (f : Fl) (xs ys : List Int) (p1 : Option Addr) (c1 : Nat) (p2 : Option Addr) (c2 : Nat) : Stays (fun U => (HS w b o r f xs ys U ∧ OwS .u8 5 U r p1 f.tn c1 xs ∧ (∀ x, p1 = some x → r < x.block)) ∧ OwS .u8 5 U r p2 f.ln c2 ys ∧ (∀ x, p2 = some x → r < x.block ∧ ∀ y, p1 = some y → y.block ≠ x.block)) := fun U U' h hb =>
  ⟨HS1.stays w b o r f xs ys p1 c1 U U' h.1 hb, h.2.1.below hb, h.2.2⟩

/-- When it is cloned. -/
def HE (w : World) (r : Nat) (f : Fl) (xs ys : List Int) (p1 : Option Addr) (c1 : Nat) (p2 : Option Addr) (c2 : Nat) (V : World) : Prop :=
  V.heap[r]? = some (.cells #[.slice p1 f.tn c1, .slice p2 f.ln c2, .bool f.cl] 80 (0, 0)) ∧ OwS .u8 5 V r p1 f.tn c1 xs ∧ OwS .u8 5 V r p2 f.ln c2 ys ∧ Below w.heap.size w V ∧ (∀ x, p1 = some x → r < x.block) ∧ (∀ x, p2 = some x → r < x.block ∧ ∀ y, p1 = some y → y.block ≠ x.block)

theorem HE.stays (w : World) (r : Nat) (f : Fl) (xs ys : List Int) (p1 : Option Addr) (c1 : Nat) (p2 : Option Addr) (c2 : Nat) : Stays (HE w r f xs ys p1 c1 p2 c2) := fun _ _ h hb =>
  ⟨by rw [hb.block r (Array.getElem?_eq_some_iff.1 h.1).1]; exact h.1, h.2.1.below hb, h.2.2.1.below hb, h.2.2.2.1.trans (hb.mono h.2.2.2.1.size), h.2.2.2.2.1, h.2.2.2.2.2⟩

set_option linter.unusedSimpArgs false in
set_option maxRecDepth 20000 in
set_option maxHeartbeats 1000000 in
theorem flclone_any (w : World) (b o : Nat) (f : Fl) (xs ys : List Int) (h0 : w.cell? ⟨b, o, none⟩ = some (.slice f.tp f.tn f.tc)) (h1 : w.cell? ⟨b, o + 1, none⟩ = some (.slice f.lp f.ln f.lc)) (h2 : w.cell? ⟨b, o + 2, none⟩ = some (.bool f.cl)) (hr1 : Rd .u8 w f.tp f.tn f.tc xs) (hr2 : Rd .u8 w f.lp f.ln f.lc ys) (hl1 : f.tn ≤ 1099511627776) (hl2 : f.ln ≤ 1099511627776) :
    Calls Try.prog 64 #[.pointer (some ⟨b, o, none⟩)] w fun e w' => ∃ p1 c1 p2 c2, e = .returned (.agg #[.slice p1 f.tn c1, .slice p2 f.ln c2, .bool f.cl]) ∧ OwS .u8 5 w' w.heap.size p1 f.tn c1 xs ∧ OwS .u8 5 w' w.heap.size p2 f.ln c2 ys ∧ Below w.heap.size w w' ∧ (∀ x, p2 = some x → ∀ y, p1 = some y → y.block ≠ x.block) := by
  have hb1 : Below w.heap.size w (w.alloc (.cells #[.slice none 0 0, .slice none 0 0, .bool false] 80)) := (Below.refl _ _).alloc (Nat.le_refl _) _
  obtain ⟨r, hrr⟩ : ∃ r, r = w.heap.size := ⟨_, rfl⟩
  have hS0 : HS w b o r f xs ys (w.alloc (.cells #[.slice none 0 0, .slice none 0 0, .bool false] 80)).drew := HS.stays w b o r f xs ys _ _ ⟨by rw [hb1.cell (p := ⟨b, o, none⟩) (World.block_lt_of_cell? _ _ h0)]; exact h0, by rw [hb1.cell (p := ⟨b, o + 1, none⟩) (World.block_lt_of_cell? _ _ h1)]; exact h1, by rw [hb1.cell (p := ⟨b, o + 2, none⟩) (World.block_lt_of_cell? _ _ h2)]; exact h2, hr1.below' hb1, hr2.below' hb1, by rw [hrr]; exact heap_alloc_new _ _, by omega, hb1⟩ (Below.refl _ _).drew
  have HR : Hid (r = w.heap.size) := hrr
  clear h0 h1 h2 hr1 hr2 hb1
  go_enter Try.func64, Try.ntmps64
  go_wp2_with fail
  rw [← hrr]
  clear hrr
  refine wp_region_det [0, 1, 2, 3, 5, 6, 7, 8, 10, 11, 12, 13, 14] (HS w b o r f xs ys) (HS w b o r f xs ys) (by kernel_rfl) hS0 ?_
  refine wpDet_take ?vL0 (HS.stays w b o r f xs ys) (fun _ h => h) (i := 0) rfl (by kernel_rfl) (by kernel_rfl) (by kernel_rfl) (by kernel_rfl) (fun _ _ _ h => h) (Gives.value (by rfl) ?yL0) ?rL0
  case yL0 => (intro w' hSw; (try dsimp only at hSw); go_simp; try with_reducible rfl)
  (try simp only [Act.put, List.getElem_toArray, List.getElem_cons_zero, List.getElem_cons_succ, List.setIfInBounds_toArray, List.set_cons_zero, List.set_cons_succ])
  refine wpDet_take ?vL1 (HS.stays w b o r f xs ys) (fun _ h => h) (i := 1) rfl (by kernel_rfl) (by kernel_rfl) (by kernel_rfl) (by kernel_rfl) (fun _ _ _ h => h) (Gives.value (by rfl) ?yL1) ?rL1
  case yL1 => (intro w' hSw; (try dsimp only at hSw); go_simp; try with_reducible rfl)
  (try simp only [Act.put, List.getElem_toArray, List.getElem_cons_zero, List.getElem_cons_succ, List.setIfInBounds_toArray, List.set_cons_zero, List.set_cons_succ])
  refine wpDet_take ?vL2 (HS.stays w b o r f xs ys) (fun _ h => h) (i := 2) rfl (by kernel_rfl) (by kernel_rfl) (by kernel_rfl) (by kernel_rfl) (fun _ _ _ h => h) (Gives.value (by rfl) ?yL2) ?rL2
  case yL2 => (intro w' hSw; (try dsimp only at hSw); go_simp; try with_reducible rfl)
  (try simp only [Act.put, List.getElem_toArray, List.getElem_cons_zero, List.getElem_cons_succ, List.setIfInBounds_toArray, List.set_cons_zero, List.set_cons_succ])
  refine wpDet_take ?vL3 (HS.stays w b o r f xs ys) (fun _ h => h) (i := 3) rfl (by kernel_rfl) (by kernel_rfl) (by kernel_rfl) (by kernel_rfl) (fun _ _ _ h => h) (Gives.value (by rfl) ?yL3) ?rL3
  case yL3 => (intro w' hSw; have hq0 := hSw.1; (try dsimp only at hSw); go_simp; try with_reducible rfl)
  (try simp only [Act.put, List.getElem_toArray, List.getElem_cons_zero, List.getElem_cons_succ, List.setIfInBounds_toArray, List.set_cons_zero, List.set_cons_succ])
  refine wpDet_take ?vL5 (HS.stays w b o r f xs ys) (fun _ h => h) (i := 5) rfl (by kernel_rfl) (by kernel_rfl) (by kernel_rfl) (by kernel_rfl) (fun _ _ _ h => h) (Gives.value (by rfl) ?yL5) ?rL5
  case yL5 => (intro w' hSw; (try dsimp only at hSw); go_simp; try with_reducible rfl)
  (try simp only [Act.put, List.getElem_toArray, List.getElem_cons_zero, List.getElem_cons_succ, List.setIfInBounds_toArray, List.set_cons_zero, List.set_cons_succ])
  refine wpDet_take ?vL6 (HS.stays w b o r f xs ys) (fun _ h => h) (i := 6) rfl (by kernel_rfl) (by kernel_rfl) (by kernel_rfl) (by kernel_rfl) (fun _ _ _ h => h) (Gives.value (by rfl) ?yL6) ?rL6
  case yL6 => (intro w' hSw; (try dsimp only at hSw); go_simp; try with_reducible rfl)
  (try simp only [Act.put, List.getElem_toArray, List.getElem_cons_zero, List.getElem_cons_succ, List.setIfInBounds_toArray, List.set_cons_zero, List.set_cons_succ])
  refine wpDet_take ?vL7 (HS.stays w b o r f xs ys) (fun _ h => h) (i := 7) rfl (by kernel_rfl) (by kernel_rfl) (by kernel_rfl) (by kernel_rfl) (fun _ _ _ h => h) (Gives.value (by rfl) ?yL7) ?rL7
  case yL7 => (intro w' hSw; (try dsimp only at hSw); go_simp; try with_reducible rfl)
  (try simp only [Act.put, List.getElem_toArray, List.getElem_cons_zero, List.getElem_cons_succ, List.setIfInBounds_toArray, List.set_cons_zero, List.set_cons_succ])
  refine wpDet_take ?vL8 (HS.stays w b o r f xs ys) (fun _ h => h) (i := 8) rfl (by kernel_rfl) (by kernel_rfl) (by kernel_rfl) (by kernel_rfl) (fun _ _ _ h => h) (Gives.value (by rfl) ?yL8) ?rL8
  case yL8 => (intro w' hSw; have hq0 := hSw.2.1; (try dsimp only at hSw); go_simp; try with_reducible rfl)
  (try simp only [Act.put, List.getElem_toArray, List.getElem_cons_zero, List.getElem_cons_succ, List.setIfInBounds_toArray, List.set_cons_zero, List.set_cons_succ])
  refine wpDet_take ?vL10 (HS.stays w b o r f xs ys) (fun _ h => h) (i := 10) rfl (by kernel_rfl) (by kernel_rfl) (by kernel_rfl) (by kernel_rfl) (fun _ _ _ h => h) (Gives.value (by rfl) ?yL10) ?rL10
  case yL10 => (intro w' hSw; (try dsimp only at hSw); go_simp; try with_reducible rfl)
  (try simp only [Act.put, List.getElem_toArray, List.getElem_cons_zero, List.getElem_cons_succ, List.setIfInBounds_toArray, List.set_cons_zero, List.set_cons_succ])
  refine wpDet_take ?vL11 (HS.stays w b o r f xs ys) (fun _ h => h) (i := 11) rfl (by kernel_rfl) (by kernel_rfl) (by kernel_rfl) (by kernel_rfl) (fun _ _ _ h => h) (Gives.value (by rfl) ?yL11) ?rL11
  case yL11 => (intro w' hSw; (try dsimp only at hSw); go_simp; try with_reducible rfl)
  (try simp only [Act.put, List.getElem_toArray, List.getElem_cons_zero, List.getElem_cons_succ, List.setIfInBounds_toArray, List.set_cons_zero, List.set_cons_succ])
  refine wpDet_take ?vL12 (HS.stays w b o r f xs ys) (fun _ h => h) (i := 12) rfl (by kernel_rfl) (by kernel_rfl) (by kernel_rfl) (by kernel_rfl) (fun _ _ _ h => h) (Gives.value (by rfl) ?yL12) ?rL12
  case yL12 => (intro w' hSw; (try dsimp only at hSw); go_simp; try with_reducible rfl)
  (try simp only [Act.put, List.getElem_toArray, List.getElem_cons_zero, List.getElem_cons_succ, List.setIfInBounds_toArray, List.set_cons_zero, List.set_cons_succ])
  refine wpDet_take ?vL13 (HS.stays w b o r f xs ys) (fun _ h => h) (i := 13) rfl (by kernel_rfl) (by kernel_rfl) (by kernel_rfl) (by kernel_rfl) (fun _ _ _ h => h) (Gives.value (by rfl) ?yL13) ?rL13
  case yL13 => (intro w' hSw; have hq0 := hSw.2.2.1; (try dsimp only at hSw); go_simp; try with_reducible rfl)
  (try simp only [Act.put, List.getElem_toArray, List.getElem_cons_zero, List.getElem_cons_succ, List.setIfInBounds_toArray, List.set_cons_zero, List.set_cons_succ])
  refine wpDet_ready (rs := [4]) (by kernel_rfl) (by simp) (AllDet.cons rfl (fun V hV K hK => ?_) AllDet.nil)
  rw [if_pos (by rfl)]
  have hC := bclone_own f.tp f.tn f.tc xs V hV.2.2.2.1 hl1
  have hrV := (Array.getElem?_eq_some_iff.1 hV.2.2.2.2.2.1).1
  refine wp_enterX 61 #[.slice f.tp f.tn f.tc] (by first | (go_simp; done) | (go_simp; rfl)) (fun v V' => ∃ p' c', v = .slice p' f.tn c' ∧ OwS .u8 5 V' V.heap.size p' f.tn c' xs ∧ Below V.heap.size V V') (hC.mono fun e V' ⟨p', c', h1, h2⟩ => ⟨_, h1, p', c', rfl, h2⟩) ?_
  rintro v V' ⟨p1, c1, rfl, h2, h3⟩
  have hst := HS.stays w b o r f xs ys V V' hV h3
  refine hK.out (fun U => HS w b o r f xs ys U ∧ OwS .u8 5 U r p1 f.tn c1 xs ∧ (∀ x, p1 = some x → r < x.block)) _ _ (HS1.stays w b o r f xs ys p1 c1) (fun _ _ h => h.1) ⟨hst, h2.lower (Nat.le_of_lt hrV), fun x e => Nat.lt_of_lt_of_le hrV (h2.lt e).1⟩ ?_
  clear hK K hC hV h2 h3 hst hrV
  (try simp only [Act.put, List.getElem_toArray, List.getElem_cons_zero, List.getElem_cons_succ, List.setIfInBounds_toArray, List.set_cons_zero, List.set_cons_succ])
  refine wpDet_ready (rs := [9]) (by kernel_rfl) (by simp) (AllDet.cons rfl (fun V hV K hK => ?_) AllDet.nil)
  rw [if_pos (by rfl)]
  have hC := bclone_own f.lp f.ln f.lc ys V hV.1.2.2.2.2.1 hl2
  have hrV := (Array.getElem?_eq_some_iff.1 hV.1.2.2.2.2.2.1).1
  refine wp_enterX 61 #[.slice f.lp f.ln f.lc] (by first | (go_simp; done) | (go_simp; rfl)) (fun v V' => ∃ p' c', v = .slice p' f.ln c' ∧ OwS .u8 5 V' V.heap.size p' f.ln c' ys ∧ Below V.heap.size V V') (hC.mono fun e V' ⟨p', c', h1, h2⟩ => ⟨_, h1, p', c', rfl, h2⟩) ?_
  rintro v V' ⟨p2, c2, rfl, h2, h3⟩
  have hst := HS1.stays w b o r f xs ys p1 c1 V V' hV h3
  refine hK.out (fun U => (HS w b o r f xs ys U ∧ OwS .u8 5 U r p1 f.tn c1 xs ∧ (∀ x, p1 = some x → r < x.block)) ∧ OwS .u8 5 U r p2 f.ln c2 ys ∧ (∀ x, p2 = some x → r < x.block ∧ ∀ y, p1 = some y → y.block ≠ x.block)) _ _ (HS2.stays w b o r f xs ys p1 c1 p2 c2) (fun _ _ h => h.1.1) ⟨hst, h2.lower (Nat.le_of_lt hrV), fun x e => ⟨Nat.lt_of_lt_of_le hrV (h2.lt e).1, fun y e2 => by have h5 := (hV.2.1.lt e2).2; have h6 := (h2.lt e).1; omega⟩⟩ ?_
  clear hK K hC hV h2 h3 hst hrV
  (try simp only [Act.put, List.getElem_toArray, List.getElem_cons_zero, List.getElem_cons_succ, List.setIfInBounds_toArray, List.set_cons_zero, List.set_cons_succ])
  refine wpDet_take ?vL14 (HS2.stays w b o r f xs ys p1 c1 p2 c2) (fun _ h => h.1.1) (i := 14) rfl (by kernel_rfl) (by kernel_rfl) (by kernel_rfl) (by kernel_rfl) (fun _ _ _ h => h) (Gives.value (by rfl) ?yL14) ?rL14
  case yL14 => (intro w' hSw; (try dsimp only at hSw); go_simp; try with_reducible rfl)
  (try simp only [Act.put, List.getElem_toArray, List.getElem_cons_zero, List.getElem_cons_succ, List.setIfInBounds_toArray, List.set_cons_zero, List.set_cons_succ])
  refine wpDet_ready (rs := [15]) (by kernel_rfl) (by simp) (AllDet.cons rfl (fun V hV K hK => ?_) AllDet.nil)
  rw [if_pos (by rfl)]
  refine wp_store_row 80 _ _ rfl r #[.slice p1 f.tn c1, .slice p2 f.ln c2, .bool f.cl] rfl rfl _ _ hV.1.1.2.2.2.2.2.1 sizeFi rfl (oneFi _ _ _ _ _ _ _) ?_
  have hb9 := hV.1.1.2.2.2.2.2.2.2.trans (below_setRow2 V r #[.slice p1 f.tn c1, .slice p2 f.ln c2, .bool f.cl] hV.1.1.2.2.2.2.2.2.1)
  have hc9 := ch_setRow V r #[.slice p1 f.tn c1, .slice p2 f.ln c2, .bool f.cl]
  refine hK.out (HE w r f xs ys p1 c1 p2 c2) _ _ (HE.stays w r f xs ys p1 c1 p2 c2) (no_lean (by kernel_rfl)) ⟨row_setRow V r _ hV.1.1.2.2.2.2.2.1, hV.1.2.1.ch hc9 (fun x e e2 => absurd (hV.1.2.2 x e) (by rw [e2]; exact Nat.lt_irrefl _)), hV.2.1.ch hc9 (fun x e e2 => absurd (hV.2.2 x e).1 (by rw [e2]; exact Nat.lt_irrefl _)), hb9, hV.1.2.2, hV.2.2⟩ ?_
  clear hK K hV hb9 hc9
  (try simp only [Act.put, List.getElem_toArray, List.getElem_cons_zero, List.getElem_cons_succ, List.setIfInBounds_toArray, List.set_cons_zero, List.set_cons_succ])
  refine wpDet_done (by kernel_rfl) (fun w8 hV => ?_) _
  obtain ⟨hrow, ho1, ho2, hbl, hf1, hf2⟩ := hV
  have hrw := HR.out
  go_wp2_with fail
  exact bodyPost_ret (results_cell_row (p := 2) rfl _ _ r _ _ _ _ rfl hrow Try.underlying80 rfl sizeFi) rfl ⟨p1, c1, p2, c2, rfl, ho1.lower (Nat.le_of_eq hrw.symm), ho2.lower (Nat.le_of_eq hrw.symm), hbl, fun x e => (hf2 x e).2⟩

end Go.Proofs.Ytpjhadaiodnnaaa.M
