/-
  Own text: contracts of the law's files; and of bytes.Equal, bytes.HasPrefix.
-/
import Derived.Test.YtcgpdaalehgjdaaDShort2
import Derived.Deep.MidRow
namespace Go.Proofs.Ytcgpdaalehgjdaa.M
open Go.ChangeShapes Go.WideShapes Go.ChangeAt Go.RowKit

/-- A slice's three words. -/
structure Sl where
  p : Option Addr
  n : Nat
  c : Nat

/-- Eight slices in a block. -/
structure Ei (w : World) (b : Nat) (F : Nat → Sl) : Prop where
  cells : ∀ j, j < 8 → w.cell? ⟨b, j, none⟩ = some (.slice (F j).p (F j).n (F j).c)
  free : ∀ j, w.frozen? ⟨b, j, none⟩ = false

/-- Its cells. -/
def ei8 (F : Nat → Sl) : List Value := [.slice (F 0).p (F 0).n (F 0).c, .slice (F 1).p (F 1).n (F 1).c, .slice (F 2).p (F 2).n (F 2).c, .slice (F 3).p (F 3).n (F 3).c, .slice (F 4).p (F 4).n (F 4).c, .slice (F 5).p (F 5).n (F 5).c, .slice (F 6).p (F 6).n (F 6).c, .slice (F 7).p (F 7).n (F 7).c]

theorem Ei.range {w : World} {b : Nat} {F : Nat → Sl} (h : Ei w b F) : w.rangeAt b 0 (ei8 F) := fun j v hv => by
  rw [Nat.zero_add]
  match j, hv with
  | 0, hv => cases hv; exact h.cells 0 (by decide)
  | 1, hv => cases hv; exact h.cells 1 (by decide)
  | 2, hv => cases hv; exact h.cells 2 (by decide)
  | 3, hv => cases hv; exact h.cells 3 (by decide)
  | 4, hv => cases hv; exact h.cells 4 (by decide)
  | 5, hv => cases hv; exact h.cells 5 (by decide)
  | 6, hv => cases hv; exact h.cells 6 (by decide)
  | 7, hv => cases hv; exact h.cells 7 (by decide)
  | k + 8, hv => simp [ei8] at hv

theorem Ei.there {w : World} {b : Nat} {F : Nat → Sl} (h : Ei w b F) : w.there b 0 8 := fun j hj => by
  rw [Nat.zero_add, h.cells j hj]
  exact ⟨rfl, h.free j⟩

theorem Ei.of_range {w : World} {b : Nat} {F : Nat → Sl} (h : w.rangeAt b 0 (ei8 F)) (hf : ∀ j, w.frozen? ⟨b, j, none⟩ = false) : Ei w b F := by
  refine ⟨fun j hj => ?_, hf⟩
  have hh := h j (.slice (F j).p (F j).n (F j).c)
  rw [Nat.zero_add] at hh
  apply hh
  match j, hj with
  | 0, _ => rfl
  | 1, _ => rfl
  | 2, _ => rfl
  | 3, _ => rfl
  | 4, _ => rfl
  | 5, _ => rfl
  | 6, _ => rfl
  | 7, _ => rfl
  | k + 8, h => exact absurd h (by omega)

theorem Ei.ch {S : Nat → Prop} {w w' : World} {b : Nat} {F : Nat → Sl} (h : Ei w b F) (hc : Ch S w w') (hS : ¬ S b) : Ei w' b F := by
  have hlt := World.block_lt_of_cell? _ _ (h.cells 0 (by decide))
  exact ⟨fun j hj => by rw [hc.cell (p := ⟨b, j, none⟩) hlt hS]; exact h.cells j hj, fun j => by rw [hc.frozen (p := ⟨b, j, none⟩) hlt hS]; exact h.free j⟩

theorem Ei.below {w w' : World} {b : Nat} {F : Nat → Sl} (h : Ei w b F) (hb : Below w.heap.size w w') : Ei w' b F := h.ch (Ch.of_below hb (fun _ => False)) (fun e => e)

theorem Ei.lt {w : World} {b : Nat} {F : Nat → Sl} (h : Ei w b F) : b < w.heap.size := World.block_lt_of_cell? _ _ (h.cells 0 (by decide))

def upS (F : Nat → Sl) (k : Nat) (s : Sl) : Nat → Sl := fun j => if j = k then s else F j
theorem upS_same (F : Nat → Sl) (k : Nat) (s : Sl) : upS F k s k = s := if_pos rfl
theorem upS_other (F : Nat → Sl) {j k : Nat} (s : Sl) (h : j ≠ k) : upS F k s j = F j := if_neg h

theorem Ei.set {w : World} {b : Nat} {F : Nat → Sl} (h : Ei w b F) {k : Nat} (hk : k < 8) (p : Option Addr) (n c : Nat) : Ei (w.setCell ⟨b, k, none⟩ (.slice p n c)) b (upS F k ⟨p, n, c⟩) := by
  refine ⟨fun j hj => ?_, fun j => by rw [World.frozen?_setCell]; exact h.free j⟩
  by_cases e : j = k
  · subst e
    rw [upS_same]
    exact World.cell?_setCell_same _ _ _ (h.cells j hj)
  · rw [World.cell?_setCell_other (h := fun e2 => e (congrArg Addr.off e2).symm), upS_other _ _ e]
    exact h.cells j hj

theorem Ei.zero (w : World) : Ei (w.alloc (.cells #[.slice none 0 0, .slice none 0 0, .slice none 0 0, .slice none 0 0, .slice none 0 0, .slice none 0 0, .slice none 0 0, .slice none 0 0] 50)) w.heap.size (fun _ => ⟨none, 0, 0⟩) := by
  refine ⟨fun j hj => ?_, fun j => World.frozen?_alloc_at _ _ _ _ rfl⟩
  match j, hj with
  | 0, _ => simp
  | 1, _ => simp
  | 2, _ => simp
  | 3, _ => simp
  | 4, _ => simp
  | 5, _ => simp
  | 6, _ => simp
  | 7, _ => simp
  | k + 8, h => exact absurd h (by omega)

theorem frozen_setCells (b : Nat) : ∀ (vs : List Value) (o : Nat) (w : World) (x : Addr), (w.setCells b o vs).frozen? x = w.frozen? x
  | [], _, _, _ => rfl
  | v :: r, o, w, x => by rw [World.setCells, frozen_setCells b r (o + 1) _ x, World.frozen?_setCell]

theorem Ch.setCells (b : Nat) : ∀ (vs : List Value) (o : Nat) (w : World), Ch (fun k => k = b) w (w.setCells b o vs)
  | [], _, w => Ch.refl _ w
  | v :: r, o, w => (Ch.setCell w ⟨b, o, none⟩ v).trans (Ch.setCells b r (o + 1) _)

/-- A change of what is new is none of what was there. -/
theorem Ch.new {S : Nat → Prop} {w w' w'' : World} (h : Ch S w w') {b : Nat} (hb : w.heap.size ≤ b) (hc : Ch (fun k => k = b) w' w'') : Ch S w w'' :=
  ⟨hc.os.trans h.os, hc.tape.trans h.tape, hc.output.trans h.output, Nat.le_trans h.size hc.size, fun j hj hs => (hc.block j (Nat.lt_of_lt_of_le hj h.size) (by omega)).trans (h.block j hj hs)⟩

/-- A disk over a change of a block that is none of its own. -/
theorem DA.apart {w w' : World} {B : Nat} {own : Nat → Nat} {a g : Nat} {d : Dk} {m : PD} (h : DA w B own a g d m) {b : Nat} (hc : Ch (fun k => k = b) w w') (hg : b ≠ g) (ho : own b = 0) (hk : ∀ x, d.kp = some x → x.block ≠ b) : DA w' B own a g d m :=
  h.ch hc (fun e => hg e.symm) (fun i k _ hm e => by
    subst e
    rw [ho] at hm
    exact mark_pos a i hm.symm) (fun x e => hk x e) (fun _ _ => rfl) (fun k hk => h.fr k (Nat.le_trans hc.size hk))

theorem size8 : (Try.prog.info? 50).map (·.size) = some 8 := by kernel_rfl

theorem results_eight {fn : Func} {p : Tmp} (h : fn.results = #[.cell p 50]) (tmps : Array Value) (w : World) (g : Nat) (F : Nat → Sl) (hp : tmps.getD p undef = .pointer (some ⟨g, 0, none⟩)) (hF : Ei w g F) :
    (results fn tmps).run Try.prog w = .ok (.agg (ei8 F).toArray) w := by
  have hp' : tmps[p]?.getD undef = .pointer (some ⟨g, 0, none⟩) := by simpa using hp
  have hl := run_loadVar_mid (P := Try.prog) w g 0 50 (ei8 F) _ hF.range Try.underlying50 rfl size8
  simp [results, h, hp', asAddr, hl]

/-- Eight slices hold these bytes, in memory from b on. -/
def Rd8 (w : World) (b e : Nat) (F : Nat → Sl) (f : Nat → List Int) : Prop := ∀ i, i < 8 → Rd .u8 w (F i).p (F i).n (F i).c (f i) ∧ ∀ x, (F i).p = some x → 0 < (F i).n → b ≤ x.block ∧ x.block < e

theorem Rd8.ch {S : Nat → Prop} {w w' : World} {b e : Nat} {F : Nat → Sl} {f : Nat → List Int} (h : Rd8 w b e F f) (hc : Ch S w w') (hS : ∀ k, b ≤ k → k < e → ¬ S k) : Rd8 w' b e F f :=
  fun i hi => ⟨(h i hi).1.ch0 hc fun x e h0 => hS _ ((h i hi).2 x e h0).1 ((h i hi).2 x e h0).2, (h i hi).2⟩

theorem Rd8.below {w w' : World} {b e : Nat} {F : Nat → Sl} {f : Nat → List Int} (h : Rd8 w b e F f) (hb : Below w.heap.size w w') : Rd8 w' b e F f := h.ch (Ch.of_below hb (fun _ => False)) (fun _ _ _ e => e)

theorem one8 (F : Nat → Sl) : (ei8 F).toArray.all (·.oneCell') = true := all_oneCell_toArray fun v hv => by
  simp only [ei8, List.mem_cons, List.not_mem_nil, or_false] at hv
  rcases hv with rfl | rfl | rfl | rfl | rfl | rfl | rfl | rfl <;> rfl

set_option maxRecDepth 20000 in
set_option maxHeartbeats 1000000 in
theorem files_any (w : World) (B : Nat) (own : Nat → Nat) (a g : Nat) (d : Dk) (m : PD) (s : Nat) (h : DA w B own a g d m) (hm : m.ok s) (hs : s ≤ 549755813888) :
    Calls Try.prog 27 #[.pointer (some ⟨g, 0, none⟩)] w fun e w' => ∃ F, e = .returned (.agg (ei8 F).toArray) ∧ Rd8 w' w.heap.size w'.heap.size F (fun i => (m.f i).told) ∧ DA w' B own a g { d with down := false } { m with down := false } ∧ Ch (fun k => k = g) w w' := by
  have hb0 : Below w.heap.size w (w.alloc (.cells #[.slice none 0 0, .slice none 0 0, .slice none 0 0, .slice none 0 0, .slice none 0 0, .slice none 0 0, .slice none 0 0, .slice none 0 0] 50)) := (Below.refl _ _).alloc (Nat.le_refl _) _
  have hS := Start_ok _ B own a g d m (h.below hb0) hm.r0
  have hg := h.dc.lt
  have hE2 := Ei.zero w
  have hkp : ∀ x, d.kp = some x → x.block < w.heap.size := fun x e => (h.ok x e).2.2
  have hown := h.fr
  clear h
  go_enter Try.func27, Try.ntmps27
  go_wp2_with fail
  generalize (w.alloc (.cells #[.slice none 0 0, .slice none 0 0, .slice none 0 0, .slice none 0 0, .slice none 0 0, .slice none 0 0, .slice none 0 0, .slice none 0 0] 50)) = w0 at *
  refine hS.mono ?_
  rintro e w1 ⟨rfl, hA1, hc1⟩
  have hE2a := hE2.ch hc1 (by show ¬ w.heap.size = g; omega)
  have hlt2 := hE2a.lt
  have hC1 := (Ch.of_below hb0 (fun k => k = g)).trans hc1
  have hb1 : Below w1.heap.size w1 (w1.alloc (.cells #[.slice none 0 0, .slice none 0 0, .slice none 0 0, .slice none 0 0, .slice none 0 0, .slice none 0 0, .slice none 0 0, .slice none 0 0] 50)) := (Below.refl _ _).alloc (Nat.le_refl _) _
  have hE3 := Ei.zero w1
  have hA2 := hA1.below hb1
  have hE2b := hE2a.below hb1
  have hC2 := hC1.trans (Ch.of_below hb1 _)
  clear hS hA1 hE2 hE2a hc1 hb0 hC1
  go_wp2_with fail
  go_loopw [7] (fun i wr => ∃ (k : Nat) (F : Nat → Sl), k ≤ 8 ∧ i = .int .i64 k ∧ Ei wr w1.heap.size F ∧ Ei wr w.heap.size (fun _ => ⟨none, 0, 0⟩) ∧ (∀ j, j < k → Rd .u8 wr (F j).p (F j).n (F j).c (m.f j).told ∧ ∀ x, (F j).p = some x → 0 < (F j).n → w1.heap.size < x.block) ∧ DA wr B own a g { d with down := false } { m with down := false } ∧ Ch (fun k => k = g) w wr) (fun i _ => 8 - (intOf i).toNat)
  case atStart => exact ⟨0, _, Nat.zero_le _, rfl, hE3, hE2b, fun j hj => absurd hj (Nat.not_lt_zero _), hA2, hC2⟩
  case round =>
    clear hE3 hE2b hA2 hC2 hb1
    obtain ⟨k, F, hk, rfl, hE3, hE2, hR, hA, hC⟩ := hrel
    by_cases h8 : k < 8
    · have hki : (k : Int) < 8 := by omega
      have hok : ({ m with down := false } : PD).ok s := ⟨hm.r0, hm.r1, hm.told, hm.lasts, hm.keep, hm.left⟩
      have hRd := Read_ok wr B own a g _ _ hA hm.r0 rfl (hok.few hs) k h8
      have hck := hE3.cells k h8
      have hfk := hE3.free k
      have hlt3 := hE3.lt
      dsimp only at hRd
      go_wp2_with fail
      refine hRd.mono ?_
      rintro e w2 ⟨p', c', rfl, hr2, hb2, hfr⟩
      have hE3b := hE3.below hb2
      have hck2 := hE3b.cells k h8
      have hfk2 := hE3b.free k
      have hset := hE3b.set h8 p' (m.f k).told.length c'
      have hcs := Ch.setCell w2 ⟨w1.heap.size, k, none⟩ (.slice p' (m.f k).told.length c')
      dsimp only at hcs
      have hE2c := (hE2.below hb2).ch hcs (by show ¬ w.heap.size = w1.heap.size; omega)
      have hA3 := (hA.below hb2).apart hcs (by omega) (hown _ (by omega)) (fun x e => by have := hkp x e; omega)
      have hC3 := (hC.trans (Ch.of_below hb2 _)).new (show w.heap.size ≤ w1.heap.size by omega) hcs
      have hR3 : ∀ j, j < k + 1 → Rd .u8 (w2.setCell ⟨w1.heap.size, k, none⟩ (.slice p' (m.f k).told.length c')) (upS F k ⟨p', (m.f k).told.length, c'⟩ j).p (upS F k ⟨p', (m.f k).told.length, c'⟩ j).n (upS F k ⟨p', (m.f k).told.length, c'⟩ j).c (m.f j).told ∧ ∀ x, (upS F k ⟨p', (m.f k).told.length, c'⟩ j).p = some x → 0 < (upS F k ⟨p', (m.f k).told.length, c'⟩ j).n → w1.heap.size < x.block := by
        intro j hj
        by_cases e : j = k
        · subst e
          rw [upS_same]
          dsimp only
          exact ⟨hr2.ch0 hcs fun x e h0 => by have := hfr x e h0; omega, fun x e h0 => by have := hfr x e h0; omega⟩
        · rw [upS_other _ _ e]
          have hj' := hR j (by omega)
          exact ⟨(hj'.1.below' hb2).ch0 hcs fun x e h0 => by have := hj'.2 x e h0; omega, hj'.2⟩
      clear hRd hE3 hE3b hE2 hA hC hr2 hb2 hfr hR hck hfk hok
      generalize (m.f k).told.length = N at *
      generalize hF2 : upS F k ⟨p', N, c'⟩ = F2 at *
      generalize F k = Fk at *
      obtain ⟨ap, an, ac⟩ := Fk
      dsimp only at hck2
      go_wp2_with fail
      go_roundw
      case rel => exact ⟨k + 1, F2, by omega, by go_num, hset, hE2c, hR3, hA3, hC3⟩
      case measure => simp [intOf]; omega
    · obtain rfl : k = 8 := by omega
      have hT : wr.there w.heap.size 0 (ei8 F).toArray.size := hE2.there
      have hrange := hE3.range
      have hcs := Ch.setCells w.heap.size (ei8 F).toArray.toList 0 wr
      have hlt3 := hE3.lt
      have hA3 := hA.apart hcs (by omega) (hown _ (by omega)) (fun x e => by have := hkp x e; omega)
      have hC3 := hC.new (Nat.le_refl _) hcs
      have hEr : Ei (wr.setCells w.heap.size 0 (ei8 F).toArray.toList) w.heap.size F := Ei.of_range (World.rangeAt_setCells_same wr w.heap.size 0 (ei8 F).toArray.toList hE2.there) (fun j => by rw [frozen_setCells]; exact hE2.free j)
      have hR3 : Rd8 (wr.setCells w.heap.size 0 (ei8 F).toArray.toList) w.heap.size (wr.setCells w.heap.size 0 (ei8 F).toArray.toList).heap.size F (fun i => (m.f i).told) := fun i hi => ⟨(hR i hi).1.ch0 hcs fun x e h0 => by have := (hR i hi).2 x e h0; omega, fun x e h0 => ⟨by have := (hR i hi).2 x e h0; omega, Nat.lt_of_lt_of_le ((hR i hi).1.blk e h0) hcs.size⟩⟩
      clear hA hC hR hE2 hE3
      go_wp2_with (first | refine wpList_load_mid rfl 50 (.tmp 3) rfl w1.heap.size 0 rfl (ei8 F) _ hrange Try.underlying50 rfl size8 ?_ | refine wpList_store_mid rfl 50 (.tmp 2) (.tmp 19) rfl w.heap.size 0 (ei8 F).toArray rfl rfl hT size8 (one8 F) ?_)
      exact bodyPost_ret (results_eight (p := 2) rfl _ _ w.heap.size F rfl hEr) rfl ⟨F, rfl, hR3, hA3, hC3⟩

end Go.Proofs.Ytcgpdaalehgjdaa.M
