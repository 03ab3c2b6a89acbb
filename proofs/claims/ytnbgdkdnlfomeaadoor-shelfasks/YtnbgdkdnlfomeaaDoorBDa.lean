/-
  Own text: a call done.
-/
import Derived.Test.YtnbgdkdnlfomeaaDoorBFr
import Derived.Test.YtnbgdkdnlfomeaaDoorBDo
namespace Go.Proofs.YtnbgdkdnlfomeaaDoor.M
open Go.ChangeShapes Go.WideShapes Go.ChangeAt Go.RowKit Go.ChangeMaps Go.MapKept Go.Maps Go.Shelf Go.Proofs
set_option linter.unusedSimpArgs false

/-- What a call tells and makes: the record, the error, the shelf. -/
def Sh.doR (s : Sh) (d : Dv) : Rc × Int × Sh :=
  if (bits .and .i64 d.op 7 == 3) = true then (.z0, s.addE d.x, s.addS d.x)
  else if (bits .and .i64 d.op 7 == 4) = true then (.z0, s.openS (d.at s.com s.last), s.cutS (d.at s.com s.last))
  else if (bits .and .i64 d.op 7 == 5) = true then (.z0, s.openS (d.at s.com s.last), s.setS (d.at s.com s.last))
  else if (bits .and .i64 d.op 7 == 6) = true then (.z0, s.openS (d.at s.com s.last), s.setS (d.at s.com s.last))
  else if (bits .and .i64 d.op 7 == 7) = true then (.z0, s.foldE (d.at s.com s.last), s.foldS (d.at s.com s.last))
  else if s.nextE (s.nx d.ep d.k d.s d.c d.q) = 0 then (s.nextR (s.nx d.ep d.k d.s d.c d.q), s.addE (s.nextR (s.nx d.ep d.k d.s d.c d.q)), s.addS (s.nextR (s.nx d.ep d.k d.s d.c d.q)))
  else (s.nextR (s.nx d.ep d.k d.s d.c d.q), s.nextE (s.nx d.ep d.k d.s d.c d.q), s)

theorem rec0b : (#[.int .i64 Rc.z0.ix, .int .i64 Rc.z0.ep, .int .u8 (bt Rc.z0.k 0), .int .u8 (bt Rc.z0.k 1), .int .u8 (bt Rc.z0.k 2), .int .u8 (bt Rc.z0.k 3), .int .u8 (bt Rc.z0.k 4), .int .u8 (bt Rc.z0.k 5), .int .u8 (bt Rc.z0.k 6), .int .u8 (bt Rc.z0.k 7), .int .i64 Rc.z0.v, .string Rc.z0.s, .int .i64 Rc.z0.c, .int .i64 Rc.z0.q] : Array Value) = #[.int .i64 0, .int .i64 0, .int .u8 0, .int .u8 0, .int .u8 0, .int .u8 0, .int .u8 0, .int .u8 0, .int .u8 0, .int .u8 0, .int .i64 0, .string ⟨#[]⟩, .int .i64 0, .int .i64 0] := by simp [Rc.z0, bt]

theorem ShB.apart {w w' : World} {g b : Nat} {p : Option Addr} {n c : Nat} {s : Sh} (h : ShB w g b p n c s) {B : Nat} (hc : Ch (fun k => k = B) w w') (hg : g ≠ B) (hb : b ≠ B) (hm : ¬ mine p c B) : ShB w' g b p n c s :=
  ⟨At.same h.blk (hc.block g (At.lt h.blk) hg), h.mp.kept (hc.block b h.mp.lt hb), h.tl.ch hc (fun _ hk e => hm (e ▸ hk)), h.inv, h.gt⟩

theorem Ch.setRow (w : World) (B : Nat) (cs : Array Value) : Ch (fun k => k = B) w (w.setRow B cs) := by
  refine ⟨rfl, rfl, rfl, by simp [World.setRow], fun k hk hne => ?_⟩
  unfold World.setRow
  rw [Array.getElem?_modify, if_neg (fun e => hne e.symm)]

theorem GS.boxed {w W0 W : World} {g b : Nat} {p : Option Addr} {c : Nat} {p' : Option Addr} {n' c' : Nat} {s : Sh} (hb : Below w.heap.size w W0) (h : GS W0 g b p c p' n' c' s W) {B : Nat} (hB1 : w.heap.size ≤ B) (hB2 : B < W0.heap.size) (hg : g < w.heap.size) (hmn : ∀ k, mine p c k → k < w.heap.size) (hbB : b ≠ B) (cs : Array Value) :
    GS w g b p c p' n' c' s (W.setRow B cs) := by
  have hc := Ch.setRow W B cs
  have hm : ¬ mine p' c' B := fun e => (h.new B e).elim (fun e => by have := hmn B e; omega) (fun e => by omega)
  refine ⟨h.sh.apart hc (by omega) hbB hm, ?_, fun k hk => (h.new k hk).imp id (fun e => Nat.le_trans hb.size e)⟩
  have h1 := (Ch.of_below hb (fun k => k = g ∨ mine p c k)).trans h.ch
  exact ⟨hc.os.trans h1.os, hc.tape.trans h1.tape, hc.output.trans h1.output, Nat.le_trans h1.size hc.size, fun j hj hs => (hc.block j (Nat.lt_of_lt_of_le hj h1.size) (by omega)).trans (h1.block j hj hs)⟩

theorem GS.from {w W0 W : World} {g b : Nat} {p : Option Addr} {c : Nat} {p' : Option Addr} {n' c' : Nat} {s : Sh} (hb : Below w.heap.size w W0) (h : GS W0 g b p c p' n' c' s W) : GS w g b p c p' n' c' s W :=
  ⟨h.sh, (Ch.of_below hb _).trans h.ch, fun k hk => (h.new k hk).imp id (fun e => Nat.le_trans hb.size e)⟩

/-- The shelf is changed, and the record is told. -/
structure GR (w : World) (g b : Nat) (p : Option Addr) (c : Nat) (p' : Option Addr) (n' c' : Nat) (s : Sh) (gz gx : Nat) (x : Rc) (W : World) : Prop where
  gs : GS w g b p c p' n' c' s W
  z : At 64 W gz #[.int .i64 x.ix, .int .i64 x.ep, .int .u8 (bt x.k 0), .int .u8 (bt x.k 1), .int .u8 (bt x.k 2), .int .u8 (bt x.k 3), .int .u8 (bt x.k 4), .int .u8 (bt x.k 5), .int .u8 (bt x.k 6), .int .u8 (bt x.k 7), .int .i64 x.v, .string x.s, .int .i64 x.c, .int .i64 x.q]
  xx : At 64 W gx #[.int .i64 x.ix, .int .i64 x.ep, .int .u8 (bt x.k 0), .int .u8 (bt x.k 1), .int .u8 (bt x.k 2), .int .u8 (bt x.k 3), .int .u8 (bt x.k 4), .int .u8 (bt x.k 5), .int .u8 (bt x.k 6), .int .u8 (bt x.k 7), .int .i64 x.v, .string x.s, .int .i64 x.c, .int .i64 x.q]

theorem GR.stays (w : World) (g b : Nat) (p : Option Addr) (c : Nat) (p' : Option Addr) (n' c' : Nat) (s : Sh) (gz gx : Nat) (x : Rc) : Stays (GR w g b p c p' n' c' s gz gx x) :=
  fun _ _ h hb => ⟨GS.stays _ _ _ _ _ _ _ _ _ _ _ h.gs hb, h.z.below hb, h.xx.below hb⟩

set_option maxRecDepth 20000 in
set_option maxHeartbeats 4000000 in
theorem does_any {w : World} {g b : Nat} {p : Option Addr} {n c : Nat} {s : Sh} (h : ShB w g b p n c s) (d : Dv) (hdk : d.k < 18446744073709551616) (hds : d.s.size ≤ 9223372036854775807) (hxk : d.x.k < 18446744073709551616) (hxs : d.x.s.size ≤ 9223372036854775807) (hT : Tabs w) :
    Calls Tryd.prog 39 #[.pointer (some ⟨g, 0, none⟩), .agg #[.int .i64 d.op, .int .i64 d.ep, .int .i64 d.i, .bool d.nr, .int .u8 (bt d.k 0), .int .u8 (bt d.k 1), .int .u8 (bt d.k 2), .int .u8 (bt d.k 3), .int .u8 (bt d.k 4), .int .u8 (bt d.k 5), .int .u8 (bt d.k 6), .int .u8 (bt d.k 7), .string d.s, .int .i64 d.c, .int .i64 d.q, .int .i64 d.x.ix, .int .i64 d.x.ep, .int .u8 (bt d.x.k 0), .int .u8 (bt d.x.k 1), .int .u8 (bt d.x.k 2), .int .u8 (bt d.x.k 3), .int .u8 (bt d.x.k 4), .int .u8 (bt d.x.k 5), .int .u8 (bt d.x.k 6), .int .u8 (bt d.x.k 7), .int .i64 d.x.v, .string d.x.s, .int .i64 d.x.c, .int .i64 d.x.q]] w fun e w' => e = .returned (.tuple #[.agg #[.int .i64 (s.doR d).1.ix, .int .i64 (s.doR d).1.ep, .int .u8 (bt (s.doR d).1.k 0), .int .u8 (bt (s.doR d).1.k 1), .int .u8 (bt (s.doR d).1.k 2), .int .u8 (bt (s.doR d).1.k 3), .int .u8 (bt (s.doR d).1.k 4), .int .u8 (bt (s.doR d).1.k 5), .int .u8 (bt (s.doR d).1.k 6), .int .u8 (bt (s.doR d).1.k 7), .int .i64 (s.doR d).1.v, .string (s.doR d).1.s, .int .i64 (s.doR d).1.c, .int .i64 (s.doR d).1.q], .int .i64 (s.doR d).2.1]) ∧ ∃ b' p' n' c', GS w g b' p c p' n' c' (s.doR d).2.2 w' ∧ (b' = b ∨ w.heap.size ≤ b') := by
  have hb1 := below_alloc' w (.cells #[.int .i64 d.op, .int .i64 d.ep, .int .i64 d.i, .bool d.nr, .int .u8 (bt d.k 0), .int .u8 (bt d.k 1), .int .u8 (bt d.k 2), .int .u8 (bt d.k 3), .int .u8 (bt d.k 4), .int .u8 (bt d.k 5), .int .u8 (bt d.k 6), .int .u8 (bt d.k 7), .string d.s, .int .i64 d.c, .int .i64 d.q, .int .i64 d.x.ix, .int .i64 d.x.ep, .int .u8 (bt d.x.k 0), .int .u8 (bt d.x.k 1), .int .u8 (bt d.x.k 2), .int .u8 (bt d.x.k 3), .int .u8 (bt d.x.k 4), .int .u8 (bt d.x.k 5), .int .u8 (bt d.x.k 6), .int .u8 (bt d.x.k 7), .int .i64 d.x.v, .string d.x.s, .int .i64 d.x.c, .int .i64 d.x.q] 73)
  have hA := At.new 73 w #[.int .i64 d.op, .int .i64 d.ep, .int .i64 d.i, .bool d.nr, .int .u8 (bt d.k 0), .int .u8 (bt d.k 1), .int .u8 (bt d.k 2), .int .u8 (bt d.k 3), .int .u8 (bt d.k 4), .int .u8 (bt d.k 5), .int .u8 (bt d.k 6), .int .u8 (bt d.k 7), .string d.s, .int .i64 d.c, .int .i64 d.q, .int .i64 d.x.ix, .int .i64 d.x.ep, .int .u8 (bt d.x.k 0), .int .u8 (bt d.x.k 1), .int .u8 (bt d.x.k 2), .int .u8 (bt d.x.k 3), .int .u8 (bt d.x.k 4), .int .u8 (bt d.x.k 5), .int .u8 (bt d.x.k 6), .int .u8 (bt d.x.k 7), .int .i64 d.x.v, .string d.x.s, .int .i64 d.x.c, .int .i64 d.x.q]
  have hs : (w.alloc (.cells #[.int .i64 d.op, .int .i64 d.ep, .int .i64 d.i, .bool d.nr, .int .u8 (bt d.k 0), .int .u8 (bt d.k 1), .int .u8 (bt d.k 2), .int .u8 (bt d.k 3), .int .u8 (bt d.k 4), .int .u8 (bt d.k 5), .int .u8 (bt d.k 6), .int .u8 (bt d.k 7), .string d.s, .int .i64 d.c, .int .i64 d.q, .int .i64 d.x.ix, .int .i64 d.x.ep, .int .u8 (bt d.x.k 0), .int .u8 (bt d.x.k 1), .int .u8 (bt d.x.k 2), .int .u8 (bt d.x.k 3), .int .u8 (bt d.x.k 4), .int .u8 (bt d.x.k 5), .int .u8 (bt d.x.k 6), .int .u8 (bt d.x.k 7), .int .i64 d.x.v, .string d.x.s, .int .i64 d.x.c, .int .i64 d.x.q] 73)).heap.size = w.heap.size + 1 := by simp
  have hb2 := hb1.trans ((below_alloc' (w.alloc (.cells #[.int .i64 d.op, .int .i64 d.ep, .int .i64 d.i, .bool d.nr, .int .u8 (bt d.k 0), .int .u8 (bt d.k 1), .int .u8 (bt d.k 2), .int .u8 (bt d.k 3), .int .u8 (bt d.k 4), .int .u8 (bt d.k 5), .int .u8 (bt d.k 6), .int .u8 (bt d.k 7), .string d.s, .int .i64 d.c, .int .i64 d.q, .int .i64 d.x.ix, .int .i64 d.x.ep, .int .u8 (bt d.x.k 0), .int .u8 (bt d.x.k 1), .int .u8 (bt d.x.k 2), .int .u8 (bt d.x.k 3), .int .u8 (bt d.x.k 4), .int .u8 (bt d.x.k 5), .int .u8 (bt d.x.k 6), .int .u8 (bt d.x.k 7), .int .i64 d.x.v, .string d.x.s, .int .i64 d.x.c, .int .i64 d.x.q] 73)) (.cells #[.int .i64 0, .int .i64 0, .int .u8 0, .int .u8 0, .int .u8 0, .int .u8 0, .int .u8 0, .int .u8 0, .int .u8 0, .int .u8 0, .int .i64 0, .string ⟨#[]⟩, .int .i64 0, .int .i64 0] 64)).mono hb1.size)
  have hZ := At.new 64 (w.alloc (.cells #[.int .i64 d.op, .int .i64 d.ep, .int .i64 d.i, .bool d.nr, .int .u8 (bt d.k 0), .int .u8 (bt d.k 1), .int .u8 (bt d.k 2), .int .u8 (bt d.k 3), .int .u8 (bt d.k 4), .int .u8 (bt d.k 5), .int .u8 (bt d.k 6), .int .u8 (bt d.k 7), .string d.s, .int .i64 d.c, .int .i64 d.q, .int .i64 d.x.ix, .int .i64 d.x.ep, .int .u8 (bt d.x.k 0), .int .u8 (bt d.x.k 1), .int .u8 (bt d.x.k 2), .int .u8 (bt d.x.k 3), .int .u8 (bt d.x.k 4), .int .u8 (bt d.x.k 5), .int .u8 (bt d.x.k 6), .int .u8 (bt d.x.k 7), .int .i64 d.x.v, .string d.x.s, .int .i64 d.x.c, .int .i64 d.x.q] 73)) #[.int .i64 0, .int .i64 0, .int .u8 0, .int .u8 0, .int .u8 0, .int .u8 0, .int .u8 0, .int .u8 0, .int .u8 0, .int .u8 0, .int .i64 0, .string ⟨#[]⟩, .int .i64 0, .int .i64 0]
  have hD := hA.below (below_alloc' (w.alloc (.cells #[.int .i64 d.op, .int .i64 d.ep, .int .i64 d.i, .bool d.nr, .int .u8 (bt d.k 0), .int .u8 (bt d.k 1), .int .u8 (bt d.k 2), .int .u8 (bt d.k 3), .int .u8 (bt d.k 4), .int .u8 (bt d.k 5), .int .u8 (bt d.k 6), .int .u8 (bt d.k 7), .string d.s, .int .i64 d.c, .int .i64 d.q, .int .i64 d.x.ix, .int .i64 d.x.ep, .int .u8 (bt d.x.k 0), .int .u8 (bt d.x.k 1), .int .u8 (bt d.x.k 2), .int .u8 (bt d.x.k 3), .int .u8 (bt d.x.k 4), .int .u8 (bt d.x.k 5), .int .u8 (bt d.x.k 6), .int .u8 (bt d.x.k 7), .int .i64 d.x.v, .string d.x.s, .int .i64 d.x.c, .int .i64 d.x.q] 73)) (.cells #[.int .i64 0, .int .i64 0, .int .u8 0, .int .u8 0, .int .u8 0, .int .u8 0, .int .u8 0, .int .u8 0, .int .u8 0, .int .u8 0, .int .i64 0, .string ⟨#[]⟩, .int .i64 0, .int .i64 0] 64))
  rw [hs] at hZ
  have hgl := At.lt h.blk
  have hbl := h.mp.lt
  have hmn : ∀ k, mine p c k → k < w.heap.size := fun k hk => (h.tl.lt hk).2
  have hN := h.below hb2
  have hTa := hT.up hb2
  clear hA hb1 hs h
  generalize hW : (w.alloc (.cells #[.int .i64 d.op, .int .i64 d.ep, .int .i64 d.i, .bool d.nr, .int .u8 (bt d.k 0), .int .u8 (bt d.k 1), .int .u8 (bt d.k 2), .int .u8 (bt d.k 3), .int .u8 (bt d.k 4), .int .u8 (bt d.k 5), .int .u8 (bt d.k 6), .int .u8 (bt d.k 7), .string d.s, .int .i64 d.c, .int .i64 d.q, .int .i64 d.x.ix, .int .i64 d.x.ep, .int .u8 (bt d.x.k 0), .int .u8 (bt d.x.k 1), .int .u8 (bt d.x.k 2), .int .u8 (bt d.x.k 3), .int .u8 (bt d.x.k 4), .int .u8 (bt d.x.k 5), .int .u8 (bt d.x.k 6), .int .u8 (bt d.x.k 7), .int .i64 d.x.v, .string d.x.s, .int .i64 d.x.c, .int .i64 d.x.q] 73)).alloc (.cells #[.int .i64 0, .int .i64 0, .int .u8 0, .int .u8 0, .int .u8 0, .int .u8 0, .int .u8 0, .int .u8 0, .int .u8 0, .int .u8 0, .int .i64 0, .string ⟨#[]⟩, .int .i64 0, .int .i64 0] 64) = W0 at *
  have hL := last2_any hN
  go_enter Tryd.func39, Tryd.ntmps39
  go_wp2_with fail
  refine hL.mono ?_
  rintro e w1 ⟨rfl, hb3⟩
  replace hb2 := hb2.trans (hb3.mono hb2.size)
  replace hZ := hZ.below hb3
  replace hD := hD.below hb3
  replace hN := hN.below hb3
  clear hL hW hb3
  go_wp2_with fail
  have hS0 : Bl w1 w1.drew := (Below.refl _ _).drew
  refine wp_region_det [0, 1, 2, 3, 4, 5] (Bl w1) (Bl w1) (by kernel_rfl) hS0 ?_
  refine wpDet_take _ (Bl.stays w1) (fun _ h => h) (i := 0) rfl (by kernel_rfl) (by kernel_rfl) (by kernel_rfl) (by kernel_rfl) (fun _ _ _ h => h) (Gives.of_yields (yieldsIf_load_mid (by rfl) _ _ rfl _ _ rfl _ _ (fun _ h => (At.range (hD.below (Bl.out h)))) Tryd.underlying73 rfl infoDo)) ?_
  (try simp only [Act.put, List.getElem_toArray, List.getElem_cons_zero, List.getElem_cons_succ, List.setIfInBounds_toArray, List.set_cons_zero, List.set_cons_succ])
  refine wpDet_take ?vW1 (Bl.stays w1) (fun _ h => h) (i := 1) rfl (by kernel_rfl) (by kernel_rfl) (by kernel_rfl) (by kernel_rfl) (fun _ _ _ h => h) (Gives.value (by rfl) ?yW1) ?rW1
  case yW1 => (intro w' hSw; (try dsimp only at hSw); go_simp; try with_reducible rfl)
  (try simp only [Act.put, List.getElem_toArray, List.getElem_cons_zero, List.getElem_cons_succ, List.setIfInBounds_toArray, List.set_cons_zero, List.set_cons_succ])
  refine wpDet_take (.int .i64 s.com) (Bl.stays w1) (fun _ h => h) (i := 2) rfl (by kernel_rfl) (by kernel_rfl) (by kernel_rfl) (by kernel_rfl) (fun _ _ _ h => h) (Gives.call 15 #[.pointer (some ⟨g, 0, none⟩)] (by rfl) (fun _ => by first | (go_simp; done) | (go_simp; rfl)) (fun W hW => ((commit_any (hN.below (Bl.out hW))).mono fun e w' h => ⟨h.1, h.2 ▸ Below.refl _ _⟩))) ?_
  (try simp only [Act.put, List.getElem_toArray, List.getElem_cons_zero, List.getElem_cons_succ, List.setIfInBounds_toArray, List.set_cons_zero, List.set_cons_succ])
  refine wpDet_take ?vW3 (Bl.stays w1) (fun _ h => h) (i := 3) rfl (by kernel_rfl) (by kernel_rfl) (by kernel_rfl) (by kernel_rfl) (fun _ _ _ h => h) (Gives.value (by rfl) ?yW3) ?rW3
  case yW3 => (intro w' hSw; (try dsimp only at hSw); go_simp; try with_reducible rfl)
  (try simp only [Act.put, List.getElem_toArray, List.getElem_cons_zero, List.getElem_cons_succ, List.setIfInBounds_toArray, List.set_cons_zero, List.set_cons_succ])
  refine wpDet_take (.int .i64 (d.at s.com s.last)) (Bl.stays w1) (fun _ h => h) (i := 4) rfl (by kernel_rfl) (by kernel_rfl) (by kernel_rfl) (by kernel_rfl) (fun _ _ _ h => h) (Gives.call 61 #[.agg #[.int .i64 d.op, .int .i64 d.ep, .int .i64 d.i, .bool d.nr, .int .u8 (bt d.k 0), .int .u8 (bt d.k 1), .int .u8 (bt d.k 2), .int .u8 (bt d.k 3), .int .u8 (bt d.k 4), .int .u8 (bt d.k 5), .int .u8 (bt d.k 6), .int .u8 (bt d.k 7), .string d.s, .int .i64 d.c, .int .i64 d.q, .int .i64 d.x.ix, .int .i64 d.x.ep, .int .u8 (bt d.x.k 0), .int .u8 (bt d.x.k 1), .int .u8 (bt d.x.k 2), .int .u8 (bt d.x.k 3), .int .u8 (bt d.x.k 4), .int .u8 (bt d.x.k 5), .int .u8 (bt d.x.k 6), .int .u8 (bt d.x.k 7), .int .i64 d.x.v, .string d.x.s, .int .i64 d.x.c, .int .i64 d.x.q], .int .i64 s.com, .int .i64 s.last] (by rfl) (fun _ => by first | (go_simp; done) | (go_simp; rfl)) (fun W hW => (place_any d s.com s.last W))) ?_
  (try simp only [Act.put, List.getElem_toArray, List.getElem_cons_zero, List.getElem_cons_succ, List.setIfInBounds_toArray, List.set_cons_zero, List.set_cons_succ])
  refine wpDet_take ?vW5 (Bl.stays w1) (fun _ h => h) (i := 5) rfl (by kernel_rfl) (by kernel_rfl) (by kernel_rfl) (by kernel_rfl) (fun _ _ _ h => h) (Gives.value (by rfl) ?yW5) ?rW5
  case yW5 => (intro w' hSw; (try dsimp only at hSw); go_simp; try with_reducible rfl)
  (try simp only [Act.put, List.getElem_toArray, List.getElem_cons_zero, List.getElem_cons_succ, List.setIfInBounds_toArray, List.set_cons_zero, List.set_cons_succ])
  refine wpDet_done (by kernel_rfl) (fun W9 hV => ?_) _
  have hb9 := Bl.out hV
  have hN9 := hN.below hb9
  have hbb := hb2.trans (hb9.mono hb2.size)
  have hZ9 := hZ.below hb9
  have hD9 := hD.below hb9
  have hT9 := hT.up hbb
  have hz1 := At.lt hZ9
  obtain ⟨c0, c1, _, _, c4, c5, c6, c7, c8, c9, c10, c11, c12, c13, c14, c15, c16, c17, c18, c19, c20, c21, c22, c23, c24, c25, c26, c27, c28⟩ := hD9.dat
  simp only [Nat.zero_add] at c1 c4 c5 c6 c7 c8 c9 c10 c11 c12 c13 c14 c15 c16 c17 c18 c19 c20 c21 c22 c23 c24 c25 c26 c27 c28
  clear hV hZ hN hD hS0 hD9 hb9 hb2 hTa
  go_wp2_with fail
  · have eR : s.doR d = (.z0, s.addE d.x, s.addS d.x) := by unfold Sh.doR; rw [if_pos ‹(bits .and .i64 d.op 7 == 3) = true›]
    refine (add_any hN9 d.x hxk hxs hT9).mono ?_
    rintro e w3 ⟨rfl, p', n', c', hG⟩
    have hZ3 := At.same hZ9 (hG.ch.block (w.heap.size + 1) hz1 (fun e => e.elim (fun e => by omega) (fun e => by have := hmn _ e; omega)))
    have hAw := hZ3.row #[.int .i64 0, .int .i64 0, .int .u8 0, .int .u8 0, .int .u8 0, .int .u8 0, .int .u8 0, .int .u8 0, .int .u8 0, .int .u8 0, .int .i64 0, .string ⟨#[]⟩, .int .i64 0, .int .i64 0]
    have hfin := GS.boxed hbb hG (B := w.heap.size + 1) (Nat.le_succ _) hz1 hgl hmn (by omega) #[.int .i64 0, .int .i64 0, .int .u8 0, .int .u8 0, .int .u8 0, .int .u8 0, .int .u8 0, .int .u8 0, .int .u8 0, .int .u8 0, .int .i64 0, .string ⟨#[]⟩, .int .i64 0, .int .i64 0]
    clear c0 c1 c4 c5 c6 c7 c8 c9 c10 c11 c12 c13 c14 c15 c16 c17 c18 c19 c20 c21 c22 c23 c24 c25 c26 c27 c28 hN9 hZ9 hG
    go_wp2_with (refine wpList_store_row rfl 64 _ _ rfl (w.heap.size + 1) #[.int .i64 0, .int .i64 0, .int .u8 0, .int .u8 0, .int .u8 0, .int .u8 0, .int .u8 0, .int .u8 0, .int .u8 0, .int .u8 0, .int .i64 0, .string ⟨#[]⟩, .int .i64 0, .int .i64 0] rfl rfl _ _ hZ3 infoRc rfl (by simp [Value.oneCell']) ?_)
    exact bodyPost_ret (results_row_tmp rfl _ _ (w.heap.size + 1) _ _ _ rfl hAw Tryd.underlying64 rfl infoRc) rfl ⟨Eq.trans (b := Ending.returned (.tuple #[.agg #[.int .i64 0, .int .i64 0, .int .u8 0, .int .u8 0, .int .u8 0, .int .u8 0, .int .u8 0, .int .u8 0, .int .u8 0, .int .u8 0, .int .i64 0, .string ⟨#[]⟩, .int .i64 0, .int .i64 0], .int .i64 (s.addE d.x)])) rfl (by rw [eR]; dsimp only; rw [rec0b]), by rw [eR]; exact ⟨b, p', n', c', hfin, Or.inl rfl⟩⟩
  · have eR : s.doR d = (.z0, s.openS (d.at s.com s.last), s.cutS (d.at s.com s.last)) := by unfold Sh.doR; rw [if_neg (show ¬ (bits .and .i64 d.op 7 == 3) = true by rw [‹(bits .and .i64 d.op 7 == 3) = false›]; decide), if_pos ‹(bits .and .i64 d.op 7 == 4) = true›]
    refine (cut_any hN9 _).mono ?_
    rintro e w3 ⟨rfl, n', hG⟩
    have hZ3 := At.same hZ9 (hG.ch.block (w.heap.size + 1) hz1 (fun e => e.elim (fun e => by omega) (fun e => by have := hmn _ e; omega)))
    have hAw := hZ3.row #[.int .i64 0, .int .i64 0, .int .u8 0, .int .u8 0, .int .u8 0, .int .u8 0, .int .u8 0, .int .u8 0, .int .u8 0, .int .u8 0, .int .i64 0, .string ⟨#[]⟩, .int .i64 0, .int .i64 0]
    have hfin := GS.boxed hbb hG (B := w.heap.size + 1) (Nat.le_succ _) hz1 hgl hmn (by omega) #[.int .i64 0, .int .i64 0, .int .u8 0, .int .u8 0, .int .u8 0, .int .u8 0, .int .u8 0, .int .u8 0, .int .u8 0, .int .u8 0, .int .i64 0, .string ⟨#[]⟩, .int .i64 0, .int .i64 0]
    clear c0 c1 c4 c5 c6 c7 c8 c9 c10 c11 c12 c13 c14 c15 c16 c17 c18 c19 c20 c21 c22 c23 c24 c25 c26 c27 c28 hN9 hZ9 hG
    go_wp2_with (refine wpList_store_row rfl 64 _ _ rfl (w.heap.size + 1) #[.int .i64 0, .int .i64 0, .int .u8 0, .int .u8 0, .int .u8 0, .int .u8 0, .int .u8 0, .int .u8 0, .int .u8 0, .int .u8 0, .int .i64 0, .string ⟨#[]⟩, .int .i64 0, .int .i64 0] rfl rfl _ _ hZ3 infoRc rfl (by simp [Value.oneCell']) ?_)
    exact bodyPost_ret (results_row_tmp rfl _ _ (w.heap.size + 1) _ _ _ rfl hAw Tryd.underlying64 rfl infoRc) rfl ⟨Eq.trans (b := Ending.returned (.tuple #[.agg #[.int .i64 0, .int .i64 0, .int .u8 0, .int .u8 0, .int .u8 0, .int .u8 0, .int .u8 0, .int .u8 0, .int .u8 0, .int .u8 0, .int .i64 0, .string ⟨#[]⟩, .int .i64 0, .int .i64 0], .int .i64 (s.openS (d.at s.com s.last))])) rfl (by rw [eR]; dsimp only; rw [rec0b]), by rw [eR]; exact ⟨b, p, n', c, hfin, Or.inl rfl⟩⟩
  · have eR : s.doR d = (.z0, s.openS (d.at s.com s.last), s.setS (d.at s.com s.last)) := by unfold Sh.doR; rw [if_neg (show ¬ (bits .and .i64 d.op 7 == 3) = true by rw [‹(bits .and .i64 d.op 7 == 3) = false›]; decide), if_neg (show ¬ (bits .and .i64 d.op 7 == 4) = true by rw [‹(bits .and .i64 d.op 7 == 4) = false›]; decide), if_pos ‹(bits .and .i64 d.op 7 == 5) = true›]
    refine (settle_any hN9 _).mono ?_
    rintro e w3 ⟨rfl, hG⟩
    have hZ3 := At.same hZ9 (hG.ch.block (w.heap.size + 1) hz1 (fun e => e.elim (fun e => by omega) (fun e => by have := hmn _ e; omega)))
    have hAw := hZ3.row #[.int .i64 0, .int .i64 0, .int .u8 0, .int .u8 0, .int .u8 0, .int .u8 0, .int .u8 0, .int .u8 0, .int .u8 0, .int .u8 0, .int .i64 0, .string ⟨#[]⟩, .int .i64 0, .int .i64 0]
    have hfin := GS.boxed hbb hG (B := w.heap.size + 1) (Nat.le_succ _) hz1 hgl hmn (by omega) #[.int .i64 0, .int .i64 0, .int .u8 0, .int .u8 0, .int .u8 0, .int .u8 0, .int .u8 0, .int .u8 0, .int .u8 0, .int .u8 0, .int .i64 0, .string ⟨#[]⟩, .int .i64 0, .int .i64 0]
    clear c0 c1 c4 c5 c6 c7 c8 c9 c10 c11 c12 c13 c14 c15 c16 c17 c18 c19 c20 c21 c22 c23 c24 c25 c26 c27 c28 hN9 hZ9 hG
    go_wp2_with (refine wpList_store_row rfl 64 _ _ rfl (w.heap.size + 1) #[.int .i64 0, .int .i64 0, .int .u8 0, .int .u8 0, .int .u8 0, .int .u8 0, .int .u8 0, .int .u8 0, .int .u8 0, .int .u8 0, .int .i64 0, .string ⟨#[]⟩, .int .i64 0, .int .i64 0] rfl rfl _ _ hZ3 infoRc rfl (by simp [Value.oneCell']) ?_)
    exact bodyPost_ret (results_row_tmp rfl _ _ (w.heap.size + 1) _ _ _ rfl hAw Tryd.underlying64 rfl infoRc) rfl ⟨Eq.trans (b := Ending.returned (.tuple #[.agg #[.int .i64 0, .int .i64 0, .int .u8 0, .int .u8 0, .int .u8 0, .int .u8 0, .int .u8 0, .int .u8 0, .int .u8 0, .int .u8 0, .int .i64 0, .string ⟨#[]⟩, .int .i64 0, .int .i64 0], .int .i64 (s.openS (d.at s.com s.last))])) rfl (by rw [eR]; dsimp only; rw [rec0b]), by rw [eR]; exact ⟨b, p, n, c, hfin, Or.inl rfl⟩⟩
  · have eR : s.doR d = (.z0, s.openS (d.at s.com s.last), s.setS (d.at s.com s.last)) := by unfold Sh.doR; rw [if_neg (show ¬ (bits .and .i64 d.op 7 == 3) = true by rw [‹(bits .and .i64 d.op 7 == 3) = false›]; decide), if_neg (show ¬ (bits .and .i64 d.op 7 == 4) = true by rw [‹(bits .and .i64 d.op 7 == 4) = false›]; decide), if_neg (show ¬ (bits .and .i64 d.op 7 == 5) = true by rw [‹(bits .and .i64 d.op 7 == 5) = false›]; decide), if_pos ‹(bits .and .i64 d.op 7 == 6) = true›]
    refine (settle_any hN9 _).mono ?_
    rintro e w3 ⟨rfl, hG⟩
    have hZ3 := At.same hZ9 (hG.ch.block (w.heap.size + 1) hz1 (fun e => e.elim (fun e => by omega) (fun e => by have := hmn _ e; omega)))
    have hAw := hZ3.row #[.int .i64 0, .int .i64 0, .int .u8 0, .int .u8 0, .int .u8 0, .int .u8 0, .int .u8 0, .int .u8 0, .int .u8 0, .int .u8 0, .int .i64 0, .string ⟨#[]⟩, .int .i64 0, .int .i64 0]
    have hfin := GS.boxed hbb hG (B := w.heap.size + 1) (Nat.le_succ _) hz1 hgl hmn (by omega) #[.int .i64 0, .int .i64 0, .int .u8 0, .int .u8 0, .int .u8 0, .int .u8 0, .int .u8 0, .int .u8 0, .int .u8 0, .int .u8 0, .int .i64 0, .string ⟨#[]⟩, .int .i64 0, .int .i64 0]
    clear c0 c1 c4 c5 c6 c7 c8 c9 c10 c11 c12 c13 c14 c15 c16 c17 c18 c19 c20 c21 c22 c23 c24 c25 c26 c27 c28 hN9 hZ9 hG
    go_wp2_with (refine wpList_store_row rfl 64 _ _ rfl (w.heap.size + 1) #[.int .i64 0, .int .i64 0, .int .u8 0, .int .u8 0, .int .u8 0, .int .u8 0, .int .u8 0, .int .u8 0, .int .u8 0, .int .u8 0, .int .i64 0, .string ⟨#[]⟩, .int .i64 0, .int .i64 0] rfl rfl _ _ hZ3 infoRc rfl (by simp [Value.oneCell']) ?_)
    exact bodyPost_ret (results_row_tmp rfl _ _ (w.heap.size + 1) _ _ _ rfl hAw Tryd.underlying64 rfl infoRc) rfl ⟨Eq.trans (b := Ending.returned (.tuple #[.agg #[.int .i64 0, .int .i64 0, .int .u8 0, .int .u8 0, .int .u8 0, .int .u8 0, .int .u8 0, .int .u8 0, .int .u8 0, .int .u8 0, .int .i64 0, .string ⟨#[]⟩, .int .i64 0, .int .i64 0], .int .i64 (s.openS (d.at s.com s.last))])) rfl (by rw [eR]; dsimp only; rw [rec0b]), by rw [eR]; exact ⟨b, p, n, c, hfin, Or.inl rfl⟩⟩
  · have eR : s.doR d = (.z0, s.foldE (d.at s.com s.last), s.foldS (d.at s.com s.last)) := by unfold Sh.doR; rw [if_neg (show ¬ (bits .and .i64 d.op 7 == 3) = true by rw [‹(bits .and .i64 d.op 7 == 3) = false›]; decide), if_neg (show ¬ (bits .and .i64 d.op 7 == 4) = true by rw [‹(bits .and .i64 d.op 7 == 4) = false›]; decide), if_neg (show ¬ (bits .and .i64 d.op 7 == 5) = true by rw [‹(bits .and .i64 d.op 7 == 5) = false›]; decide), if_neg (show ¬ (bits .and .i64 d.op 7 == 6) = true by rw [‹(bits .and .i64 d.op 7 == 6) = false›]; decide), if_pos ‹(bits .and .i64 d.op 7 == 7) = true›]
    refine (fold_any hN9 _).mono ?_
    rintro e w3 ⟨rfl, b', n', hG, hbb'⟩
    have hZ3 := At.same hZ9 (hG.ch.block (w.heap.size + 1) hz1 (fun e => e.elim (fun e => by omega) (fun e => by have := hmn _ e; omega)))
    have hAw := hZ3.row #[.int .i64 0, .int .i64 0, .int .u8 0, .int .u8 0, .int .u8 0, .int .u8 0, .int .u8 0, .int .u8 0, .int .u8 0, .int .u8 0, .int .i64 0, .string ⟨#[]⟩, .int .i64 0, .int .i64 0]
    have hfin := GS.boxed hbb hG (B := w.heap.size + 1) (Nat.le_succ _) hz1 hgl hmn (by omega) #[.int .i64 0, .int .i64 0, .int .u8 0, .int .u8 0, .int .u8 0, .int .u8 0, .int .u8 0, .int .u8 0, .int .u8 0, .int .u8 0, .int .i64 0, .string ⟨#[]⟩, .int .i64 0, .int .i64 0]
    clear c0 c1 c4 c5 c6 c7 c8 c9 c10 c11 c12 c13 c14 c15 c16 c17 c18 c19 c20 c21 c22 c23 c24 c25 c26 c27 c28 hN9 hZ9 hG
    go_wp2_with (refine wpList_store_row rfl 64 _ _ rfl (w.heap.size + 1) #[.int .i64 0, .int .i64 0, .int .u8 0, .int .u8 0, .int .u8 0, .int .u8 0, .int .u8 0, .int .u8 0, .int .u8 0, .int .u8 0, .int .i64 0, .string ⟨#[]⟩, .int .i64 0, .int .i64 0] rfl rfl _ _ hZ3 infoRc rfl (by simp [Value.oneCell']) ?_)
    exact bodyPost_ret (results_row_tmp rfl _ _ (w.heap.size + 1) _ _ _ rfl hAw Tryd.underlying64 rfl infoRc) rfl ⟨Eq.trans (b := Ending.returned (.tuple #[.agg #[.int .i64 0, .int .i64 0, .int .u8 0, .int .u8 0, .int .u8 0, .int .u8 0, .int .u8 0, .int .u8 0, .int .u8 0, .int .u8 0, .int .i64 0, .string ⟨#[]⟩, .int .i64 0, .int .i64 0], .int .i64 (s.foldE (d.at s.com s.last))])) rfl (by rw [eR]; dsimp only; rw [rec0b]), by rw [eR]; exact ⟨b', p, n', c, hfin, hbb'.imp id (fun e => Nat.le_trans hbb.size e)⟩⟩
  · have eR : s.doR d = if s.nextE (s.nx d.ep d.k d.s d.c d.q) = 0 then (s.nextR (s.nx d.ep d.k d.s d.c d.q), s.addE (s.nextR (s.nx d.ep d.k d.s d.c d.q)), s.addS (s.nextR (s.nx d.ep d.k d.s d.c d.q))) else (s.nextR (s.nx d.ep d.k d.s d.c d.q), s.nextE (s.nx d.ep d.k d.s d.c d.q), s) := by unfold Sh.doR; rw [if_neg (show ¬ (bits .and .i64 d.op 7 == 3) = true by rw [‹(bits .and .i64 d.op 7 == 3) = false›]; decide), if_neg (show ¬ (bits .and .i64 d.op 7 == 4) = true by rw [‹(bits .and .i64 d.op 7 == 4) = false›]; decide), if_neg (show ¬ (bits .and .i64 d.op 7 == 5) = true by rw [‹(bits .and .i64 d.op 7 == 5) = false›]; decide), if_neg (show ¬ (bits .and .i64 d.op 7 == 6) = true by rw [‹(bits .and .i64 d.op 7 == 6) = false›]; decide), if_neg (show ¬ (bits .and .i64 d.op 7 == 7) = true by rw [‹(bits .and .i64 d.op 7 == 7) = false›]; decide)]
    have hNx := next_any hN9 d.ep d.k hdk d.s hds d.c d.q hT9
    have hxx : (s.nextR (s.nx d.ep d.k d.s d.c d.q)).k < 18446744073709551616 ∧ (s.nextR (s.nx d.ep d.k d.s d.c d.q)).s.size ≤ 9223372036854775807 := by
      unfold Sh.nextR
      split
      · exact ⟨hdk, hds⟩
      · exact ⟨by decide, by decide⟩
    generalize s.nextR (s.nx d.ep d.k d.s d.c d.q) = x at *
    generalize s.nextE (s.nx d.ep d.k d.s d.c d.q) = ne at *
    refine hNx.mono ?_
    rintro e w3 ⟨rfl, hb3⟩
    have hba := below_alloc' w3 (.cells #[.int .i64 x.ix, .int .i64 x.ep, .int .u8 (bt x.k 0), .int .u8 (bt x.k 1), .int .u8 (bt x.k 2), .int .u8 (bt x.k 3), .int .u8 (bt x.k 4), .int .u8 (bt x.k 5), .int .u8 (bt x.k 6), .int .u8 (bt x.k 7), .int .i64 x.v, .string x.s, .int .i64 x.c, .int .i64 x.q] 64)
    have hb4 := hb3.trans (hba.mono hb3.size)
    have hN4 := hN9.below hb4
    have hZ4 := hZ9.below hb4
    have hX4 := At.new 64 w3 #[.int .i64 x.ix, .int .i64 x.ep, .int .u8 (bt x.k 0), .int .u8 (bt x.k 1), .int .u8 (bt x.k 2), .int .u8 (bt x.k 3), .int .u8 (bt x.k 4), .int .u8 (bt x.k 5), .int .u8 (bt x.k 6), .int .u8 (bt x.k 7), .int .i64 x.v, .string x.s, .int .i64 x.c, .int .i64 x.q]
    have hbb4 := hbb.trans (hb4.mono hbb.size)
    have hT4 := hT.up hbb4
    have hgx : w.heap.size + 1 < w3.heap.size := Nat.lt_of_lt_of_le hz1 hb3.size
    clear c0 c1 c4 c5 c6 c7 c8 c9 c10 c11 c12 c13 c14 c15 c16 c17 c18 c19 c20 c21 c22 c23 c24 c25 c26 c27 c28 hN9 hZ9 hNx hb4 hba
    by_cases h0 : ne = 0
    · subst h0
      rw [if_pos rfl] at eR
      have hz4 := At.lt hZ4
      go_wp2_with fail
      generalize (w3.alloc (.cells #[.int .i64 x.ix, .int .i64 x.ep, .int .u8 (bt x.k 0), .int .u8 (bt x.k 1), .int .u8 (bt x.k 2), .int .u8 (bt x.k 3), .int .u8 (bt x.k 4), .int .u8 (bt x.k 5), .int .u8 (bt x.k 6), .int .u8 (bt x.k 7), .int .i64 x.v, .string x.s, .int .i64 x.c, .int .i64 x.q] 64)) = V3 at *
      generalize w3.heap.size = gx at *
      have hS0 : Bl V3 V3.drew := (Below.refl _ _).drew
      refine wp_region_det [0, 1, 2, 5] (fun W => At 64 W gx #[.int .i64 x.ix, .int .i64 x.ep, .int .u8 (bt x.k 0), .int .u8 (bt x.k 1), .int .u8 (bt x.k 2), .int .u8 (bt x.k 3), .int .u8 (bt x.k 4), .int .u8 (bt x.k 5), .int .u8 (bt x.k 6), .int .u8 (bt x.k 7), .int .i64 x.v, .string x.s, .int .i64 x.c, .int .i64 x.q]) (Bl V3) (by kernel_rfl) hS0 ?_
      refine wpDet_take _ (Bl.stays V3) (fun _ h => hX4.below (Bl.out h)) (i := 0) rfl (by kernel_rfl) (by kernel_rfl) (by kernel_rfl) (by kernel_rfl) (fun _ _ _ h => h) (Gives.of_yields (yieldsIf_load_mid (by rfl) _ _ rfl _ _ rfl _ _ (fun _ h => At.range h) Tryd.underlying64 rfl infoRc)) ?_
      (try simp only [Act.put, List.getElem_toArray, List.getElem_cons_zero, List.getElem_cons_succ, List.setIfInBounds_toArray, List.set_cons_zero, List.set_cons_succ])
      refine wpDet_take ?vY1 (Bl.stays V3) (fun _ h => hX4.below (Bl.out h)) (i := 1) rfl (by kernel_rfl) (by kernel_rfl) (by kernel_rfl) (by kernel_rfl) (fun _ _ _ h => h) (Gives.value (by rfl) ?yY1) ?rY1
      case yY1 => (intro w' hSw; (try dsimp only at hSw); go_simp; try with_reducible rfl)
      (try simp only [Act.put, List.getElem_toArray, List.getElem_cons_zero, List.getElem_cons_succ, List.setIfInBounds_toArray, List.set_cons_zero, List.set_cons_succ])
      refine wpDet_take _ (Bl.stays V3) (fun _ h => hX4.below (Bl.out h)) (i := 2) rfl (by kernel_rfl) (by kernel_rfl) (by kernel_rfl) (by kernel_rfl) (fun _ _ _ h => h) (Gives.of_yields (yieldsIf_load_mid (by rfl) _ _ rfl _ _ rfl _ _ (fun _ h => At.range h) Tryd.underlying64 rfl infoRc)) ?_
      (try simp only [Act.put, List.getElem_toArray, List.getElem_cons_zero, List.getElem_cons_succ, List.setIfInBounds_toArray, List.set_cons_zero, List.set_cons_succ])
      refine wpDet_ready (rs := [3]) (by kernel_rfl) (by simp) (AllDet.cons rfl (fun V hV K hK => ?_) AllDet.nil)
      rw [if_pos (by rfl)]
      have hbV := Bl.out hV
      have hC := add_any (hN4.below hbV) x hxx.1 hxx.2 (hT4.up hbV)
      refine wp_enterX 37 #[.pointer (some ⟨g, 0, none⟩), .agg #[.int .i64 x.ix, .int .i64 x.ep, .int .u8 (bt x.k 0), .int .u8 (bt x.k 1), .int .u8 (bt x.k 2), .int .u8 (bt x.k 3), .int .u8 (bt x.k 4), .int .u8 (bt x.k 5), .int .u8 (bt x.k 6), .int .u8 (bt x.k 7), .int .i64 x.v, .string x.s, .int .i64 x.c, .int .i64 x.q]] (by first | (go_simp; done) | (go_simp; rfl)) (fun v W => v = .int .i64 (s.addE x) ∧ ∃ p' n' c', GS V g b p c p' n' c' (s.addS x) W) (hC.mono fun r w' ⟨h1, h2⟩ => ⟨_, h1, rfl, h2⟩) ?_
      rintro x7 V7 ⟨rfl, p', n', c', hG⟩
      have hz7 := GS.from hbV hG
      refine hK.out (GS V3 g b p c p' n' c' (s.addS x)) _ _ (GS.stays _ _ _ _ _ _ _ _ _) (fun _ _ h => At.same hX4 (h.ch.block gx (At.lt hX4) (fun e => e.elim (fun e => by omega) (fun e => by have := hmn _ e; omega)))) hz7 ?_
      clear hK K hV hC hz7 hbV hG
      (try simp only [Act.put, List.getElem_toArray, List.getElem_cons_zero, List.getElem_cons_succ, List.setIfInBounds_toArray, List.set_cons_zero, List.set_cons_succ])
      refine wpDet_ready (rs := [4]) (by kernel_rfl) (by simp) (AllDet.cons rfl (fun V hV K hK => ?_) AllDet.nil)
      rw [if_pos (by rfl)]
      have hzV := At.same hZ4 (hV.ch.block (w.heap.size + 1) hz4 (fun e => e.elim (fun e => by omega) (fun e => by have := hmn _ e; omega)))
      have hxV := At.same hX4 (hV.ch.block gx (At.lt hX4) (fun e => e.elim (fun e => by omega) (fun e => by have := hmn _ e; omega)))
      refine wp_store_row 64 _ _ rfl (w.heap.size + 1) #[.int .i64 x.ix, .int .i64 x.ep, .int .u8 (bt x.k 0), .int .u8 (bt x.k 1), .int .u8 (bt x.k 2), .int .u8 (bt x.k 3), .int .u8 (bt x.k 4), .int .u8 (bt x.k 5), .int .u8 (bt x.k 6), .int .u8 (bt x.k 7), .int .i64 x.v, .string x.s, .int .i64 x.c, .int .i64 x.q] rfl rfl _ _ hzV infoRc rfl oneRc ?_
      have hz9 : GR w g b p c p' n' c' (s.addS x) (w.heap.size + 1) gx x (V.setRow (w.heap.size + 1) #[.int .i64 x.ix, .int .i64 x.ep, .int .u8 (bt x.k 0), .int .u8 (bt x.k 1), .int .u8 (bt x.k 2), .int .u8 (bt x.k 3), .int .u8 (bt x.k 4), .int .u8 (bt x.k 5), .int .u8 (bt x.k 6), .int .u8 (bt x.k 7), .int .i64 x.v, .string x.s, .int .i64 x.c, .int .i64 x.q]) := ⟨GS.boxed hbb4 hV (B := w.heap.size + 1) (Nat.le_succ _) hz4 hgl hmn (by omega) #[.int .i64 x.ix, .int .i64 x.ep, .int .u8 (bt x.k 0), .int .u8 (bt x.k 1), .int .u8 (bt x.k 2), .int .u8 (bt x.k 3), .int .u8 (bt x.k 4), .int .u8 (bt x.k 5), .int .u8 (bt x.k 6), .int .u8 (bt x.k 7), .int .i64 x.v, .string x.s, .int .i64 x.c, .int .i64 x.q], hzV.row _, At.same hxV ((Ch.setRow V (w.heap.size + 1) #[.int .i64 x.ix, .int .i64 x.ep, .int .u8 (bt x.k 0), .int .u8 (bt x.k 1), .int .u8 (bt x.k 2), .int .u8 (bt x.k 3), .int .u8 (bt x.k 4), .int .u8 (bt x.k 5), .int .u8 (bt x.k 6), .int .u8 (bt x.k 7), .int .i64 x.v, .string x.s, .int .i64 x.c, .int .i64 x.q]).block gx (At.lt hxV) (by omega))⟩
      refine hK.out (GR w g b p c p' n' c' (s.addS x) (w.heap.size + 1) gx x) _ _ (GR.stays _ _ _ _ _ _ _ _ _ _ _ _) (fun _ _ h => h.xx) hz9 ?_
      clear hK K hV hz9 hzV hxV
      (try simp only [Act.put, List.getElem_toArray, List.getElem_cons_zero, List.getElem_cons_succ, List.setIfInBounds_toArray, List.set_cons_zero, List.set_cons_succ])
      refine wpDet_take ?vY5 (GR.stays _ _ _ _ _ _ _ _ _ _ _ _) (fun _ h => h.xx) (i := 5) rfl (by kernel_rfl) (by kernel_rfl) (by kernel_rfl) (by kernel_rfl) (fun _ _ _ h => h) (Gives.value (by rfl) ?yY5) ?rY5
      case yY5 => (intro w' hSw; (try dsimp only at hSw); go_simp; try with_reducible rfl)
      (try simp only [Act.put, List.getElem_toArray, List.getElem_cons_zero, List.getElem_cons_succ, List.setIfInBounds_toArray, List.set_cons_zero, List.set_cons_succ])
      refine wpDet_done (by kernel_rfl) (fun W9 hV => ?_) _
      go_wp2_with fail
      exact bodyPost_ret (results_row_tmp rfl _ _ (w.heap.size + 1) _ _ _ rfl hV.z Tryd.underlying64 rfl infoRc) rfl ⟨Eq.trans (b := Ending.returned (.tuple #[.agg #[.int .i64 x.ix, .int .i64 x.ep, .int .u8 (bt x.k 0), .int .u8 (bt x.k 1), .int .u8 (bt x.k 2), .int .u8 (bt x.k 3), .int .u8 (bt x.k 4), .int .u8 (bt x.k 5), .int .u8 (bt x.k 6), .int .u8 (bt x.k 7), .int .i64 x.v, .string x.s, .int .i64 x.c, .int .i64 x.q], .int .i64 (s.addE x)])) rfl (by rw [eR]), by rw [eR]; exact ⟨b, p', n', c', hV.gs, Or.inl rfl⟩⟩
    · rw [if_neg h0] at eR
      have hbw := Ch.setRow (w3.alloc (.cells #[.int .i64 x.ix, .int .i64 x.ep, .int .u8 (bt x.k 0), .int .u8 (bt x.k 1), .int .u8 (bt x.k 2), .int .u8 (bt x.k 3), .int .u8 (bt x.k 4), .int .u8 (bt x.k 5), .int .u8 (bt x.k 6), .int .u8 (bt x.k 7), .int .i64 x.v, .string x.s, .int .i64 x.c, .int .i64 x.q] 64)) (w.heap.size + 1) #[.int .i64 x.ix, .int .i64 x.ep, .int .u8 (bt x.k 0), .int .u8 (bt x.k 1), .int .u8 (bt x.k 2), .int .u8 (bt x.k 3), .int .u8 (bt x.k 4), .int .u8 (bt x.k 5), .int .u8 (bt x.k 6), .int .u8 (bt x.k 7), .int .i64 x.v, .string x.s, .int .i64 x.c, .int .i64 x.q]
      have hAw := hZ4.row #[.int .i64 x.ix, .int .i64 x.ep, .int .u8 (bt x.k 0), .int .u8 (bt x.k 1), .int .u8 (bt x.k 2), .int .u8 (bt x.k 3), .int .u8 (bt x.k 4), .int .u8 (bt x.k 5), .int .u8 (bt x.k 6), .int .u8 (bt x.k 7), .int .i64 x.v, .string x.s, .int .i64 x.c, .int .i64 x.q]
      have hfin : GS w g b p c p n c s ((w3.alloc (.cells #[.int .i64 x.ix, .int .i64 x.ep, .int .u8 (bt x.k 0), .int .u8 (bt x.k 1), .int .u8 (bt x.k 2), .int .u8 (bt x.k 3), .int .u8 (bt x.k 4), .int .u8 (bt x.k 5), .int .u8 (bt x.k 6), .int .u8 (bt x.k 7), .int .i64 x.v, .string x.s, .int .i64 x.c, .int .i64 x.q] 64)).setRow (w.heap.size + 1) #[.int .i64 x.ix, .int .i64 x.ep, .int .u8 (bt x.k 0), .int .u8 (bt x.k 1), .int .u8 (bt x.k 2), .int .u8 (bt x.k 3), .int .u8 (bt x.k 4), .int .u8 (bt x.k 5), .int .u8 (bt x.k 6), .int .u8 (bt x.k 7), .int .i64 x.v, .string x.s, .int .i64 x.c, .int .i64 x.q]) := GS.boxed (W0 := (w3.alloc (.cells #[.int .i64 x.ix, .int .i64 x.ep, .int .u8 (bt x.k 0), .int .u8 (bt x.k 1), .int .u8 (bt x.k 2), .int .u8 (bt x.k 3), .int .u8 (bt x.k 4), .int .u8 (bt x.k 5), .int .u8 (bt x.k 6), .int .u8 (bt x.k 7), .int .i64 x.v, .string x.s, .int .i64 x.c, .int .i64 x.q] 64))) hbb4 ⟨hN4, Ch.refl _ _, fun k hk => Or.inl hk⟩ (B := w.heap.size + 1) (Nat.le_succ _) (At.lt hZ4) hgl hmn (by omega) #[.int .i64 x.ix, .int .i64 x.ep, .int .u8 (bt x.k 0), .int .u8 (bt x.k 1), .int .u8 (bt x.k 2), .int .u8 (bt x.k 3), .int .u8 (bt x.k 4), .int .u8 (bt x.k 5), .int .u8 (bt x.k 6), .int .u8 (bt x.k 7), .int .i64 x.v, .string x.s, .int .i64 x.c, .int .i64 x.q]
      go_wp2_with (first | refine wpList_load_row rfl 64 _ rfl w3.heap.size rfl _ _ _ _ hX4 Tryd.underlying64 rfl infoRc ?_ | refine wpList_store_row rfl 64 _ _ rfl (w.heap.size + 1) #[.int .i64 x.ix, .int .i64 x.ep, .int .u8 (bt x.k 0), .int .u8 (bt x.k 1), .int .u8 (bt x.k 2), .int .u8 (bt x.k 3), .int .u8 (bt x.k 4), .int .u8 (bt x.k 5), .int .u8 (bt x.k 6), .int .u8 (bt x.k 7), .int .i64 x.v, .string x.s, .int .i64 x.c, .int .i64 x.q] rfl rfl _ _ hZ4 infoRc rfl oneRc ?_)
      exact bodyPost_ret (results_row_tmp rfl _ _ (w.heap.size + 1) _ _ _ rfl hAw Tryd.underlying64 rfl infoRc) rfl ⟨Eq.trans (b := Ending.returned (.tuple #[.agg #[.int .i64 x.ix, .int .i64 x.ep, .int .u8 (bt x.k 0), .int .u8 (bt x.k 1), .int .u8 (bt x.k 2), .int .u8 (bt x.k 3), .int .u8 (bt x.k 4), .int .u8 (bt x.k 5), .int .u8 (bt x.k 6), .int .u8 (bt x.k 7), .int .i64 x.v, .string x.s, .int .i64 x.c, .int .i64 x.q], .int .i64 ne])) rfl (by rw [eR]), by rw [eR]; exact ⟨b, p, n, c, hfin, Or.inl rfl⟩⟩

end Go.Proofs.YtnbgdkdnlfomeaaDoor.M
