/-
  Own text: Open of a tape in plain words, whatever comes of it.
-/
import Derived.Test.YtpjhadaiodnnaaaTOps
namespace Go.Proofs.Ytpjhadaiodnnaaa.M
open Go.ChangeShapes Go.WideShapes Go.ChangeAt Go.RowKit
set_option linter.unusedSimpArgs false

theorem allR_few5 (xs : List Int) (hx : By xs) : 5 * (allR xs).1.length ≤ xs.length := by
  have key : ∀ f (ys : List Int), By ys → 5 * (allF f ys).1.length ≤ ys.length := by
    intro f
    induction f with
    | zero => intro ys _; exact Nat.zero_le _
    | succ f ih =>
      intro ys hy
      unfold allF
      by_cases h : (openR ys).2.2 = 0
      · rw [if_pos h]
        obtain ⟨h1, h2, _, _⟩ := openR_room hy h
        have := ih (ys.drop (openR ys).2.1) (fun x hx => hy x (List.mem_of_mem_drop hx))
        rw [List.length_drop] at this
        show 5 * ((openR ys).1 :: (allF f (ys.drop (openR ys).2.1)).1).length ≤ _
        rw [List.length_cons]
        omega
      · rw [if_neg h]
        exact Nat.zero_le _
  exact key _ xs hx

/-- What was loaded may be a reel, but for its generation. -/
structure PR.fit (r : PR) : Prop where
  gen : 0 ≤ r.gen
  base : r.base.length ≤ 8176 ∧ By r.base
  recs : ∀ i, i < r.recs.length → By (r.recs.getD i []) ∧ (r.recs.getD i []).length ≤ 8192

theorem PR.fit.z0 : PR.fit .z0 := ⟨Int.le_refl _, ⟨Nat.zero_le _, By.nil⟩, fun _ h => absurd h (Nat.not_lt_zero _)⟩

/-- The reel that counts, in plain words: which file, the reel, and whether it is whole. -/
def cnt (m : PD) : Nat × PR × Bool := scT (fun i => (m.f i).told) 2

/-- Open: what is answered, the disk and the tape then. -/
def opM (m : PD) : Int × PD × TP :=
  if (cnt m).2.2 = true then (0, m, ⟨(cnt m).1, (cnt m).2.1.recs.length, (cnt m).2.1⟩) else svT m ⟨(cnt m).1, (cnt m).2.1.recs.length, (cnt m).2.1⟩ (cnt m).2.1.base (cnt m).2.1.recs

theorem Open_S (w : World) (L a g : Nat) (own : Nat → Nat) (m : PD) (s : Nat) (ha : a ≤ 100) (hD : ∃ d, DS w L a g own d m) (hm : Fit m s) (hs : s ≤ 274877906944) (hBy : ∀ i, i < 2 → By (m.f i).told) (hf : (cnt m).1 ≤ 1) (hr : (cnt m).2.1.fit) (hfew : (cnt m).2.1.recs.length ≤ 1000000) :
    Calls Try.prog 13 #[.pointer (some ⟨g, 0, none⟩)] w fun e w' => ∃ gt, e = .returned (.tuple #[opT (opM m).1 gt, .int .i64 (opM m).1]) ∧ ∃ own2, TSx w' L a g gt own2 (opM m).2.1 (opM m).2.2 ∧ (∀ k, k < w.heap.size → own2 k = own k) ∧ Ch (fun k => ¬ Fgn own g k) w w' := by
  obtain ⟨d, hS⟩ := hD
  have hgl : g < w.heap.size := hS.da.dc.lt
  have hX : ∀ w1 gt pb nb cb pr cr vs, OI w w1 g gt (cnt m).1 (cnt m).2.1.recs.length (cnt m).2.1 pb nb cb pr cr vs → TSx w1 L a g gt (farO own w.heap.size w1.heap.size) m ⟨(cnt m).1, (cnt m).2.1.recs.length, (cnt m).2.1⟩ := fun w1 gt pb nb cb pr cr vs hI =>
    ⟨d, pb, nb, cb, pr, cr, vs, w.heap.size, hS.marked hI.hb, hI.tb hgl, by have := hI.ge; have := hS.lw; omega, hI.to hgl, hI.hb.size⟩
  have hfw : m.few := hm.ok.few (by omega)
  refine (TOpen_gen w g (fun i => (m.f i).told) (fun wr hb i hi => Read_O wr L own a g d m (hS.da.below hb) hm.ok.r0 hm.up hfw i (by omega)) hBy (fun i hi => Nat.le_trans (hfw.told i (by omega)) (by decide)) (fun c gt w' => c = (svT m ⟨(cnt m).1, (cnt m).2.1.recs.length, (cnt m).2.1⟩ (cnt m).2.1.base (cnt m).2.1.recs).1 ∧ ∃ own2, TSx w' L a g gt own2 (svT m ⟨(cnt m).1, (cnt m).2.1.recs.length, (cnt m).2.1⟩ (cnt m).2.1.base (cnt m).2.1.recs).2.1 (svT m ⟨(cnt m).1, (cnt m).2.1.recs.length, (cnt m).2.1⟩ (cnt m).2.1.base (cnt m).2.1.recs).2.2 ∧ (∀ k, k < w.heap.size → own2 k = own k) ∧ Ch (fun k => ¬ Fgn own g k) w w') (fun c gt W W' h hb => ⟨h.1, by
      obtain ⟨own2, h1, h2, h3⟩ := h.2
      exact ⟨own2, h1.below hb, h2, h3.trans (Ch.of_below hb _)⟩⟩) ?_).mono ?_
  · intro hb w1 gt pb nb cb pr cr vs hI
    refine (Save_T w1 L a g gt _ m ⟨(cnt m).1, (cnt m).2.1.recs.length, (cnt m).2.1⟩ s ha (hX _ _ _ _ _ _ _ _ hI) hm hs hf hr.gen pb nb cb _ hI.bas.rd hr.base.2 pr _ cr vs _ hI.rcs.rd hI.sls.sls rfl hfew (fun i hi => (hr.recs i hi).1)).mono ?_
    rintro e w' ⟨rfl, own2, h1, h2, h3⟩
    refine ⟨_, rfl, rfl, own2, h1, fun k hk => (h2 k (Nat.lt_of_lt_of_le hk hI.hb.size)).trans (farO_low hk), (Ch.of_below hI.hb (fun k => ¬ Fgn own g k)).then h3 (fun k hk e => fun h4 => e ⟨(farO_low hk).trans h4.1, h4.2⟩)⟩
  · rintro e w' (⟨hb, gt, pb, nb, cb, pr, cr, vs, rfl, hI⟩ | ⟨hb, c, gt, rfl, rfl, own2, h1, h2, h3⟩)
    · have e1 : opM m = (0, m, ⟨(cnt m).1, (cnt m).2.1.recs.length, (cnt m).2.1⟩) := by unfold opM; rw [if_pos (show (cnt m).2.2 = true from hb)]
      rw [e1]
      exact ⟨gt, rfl, _, hX _ _ _ _ _ _ _ _ hI, fun k hk => farO_low hk, Ch.of_below hI.hb _⟩
    · have e1 : opM m = svT m ⟨(cnt m).1, (cnt m).2.1.recs.length, (cnt m).2.1⟩ (cnt m).2.1.base (cnt m).2.1.recs := by unfold opM; rw [if_neg (show ¬ (cnt m).2.2 = true by have : (cnt m).2.2 = false := hb; rw [this]; decide)]
      rw [e1]
      exact ⟨gt, rfl, own2, h1, h2, h3⟩

/-- Open where what counts is whole: only new memory is made. -/
theorem Open_whole (w : World) (L a g : Nat) (m : PD) (s : Nat) (hD : DSt w L a g m) (hm : Fit m s) (hs : s ≤ 274877906944) (hBy : ∀ i, i < 2 → By (m.f i).told) (f : Nat) (r : PR) (hc : cnt m = (f, r, true)) :
    Calls Try.prog 13 #[.pointer (some ⟨g, 0, none⟩)] w fun e w' => ∃ gt, e = .returned (.tuple #[.pointer (some ⟨gt, 0, none⟩), .int .i64 0]) ∧ TSo w' L a g gt m ⟨f, r.recs.length, r⟩ ∧ Below w.heap.size w w' := by
  obtain ⟨own, d, hS⟩ := hD
  have hgl : g < w.heap.size := hS.da.dc.lt
  have hfw : m.few := hm.ok.few (by omega)
  have hc' : scT (fun i => (m.f i).told) 2 = (f, r, true) := hc
  refine (TOpen_gen w g (fun i => (m.f i).told) (fun wr hb i hi => Read_O wr L own a g d m (hS.da.below hb) hm.ok.r0 hm.up hfw i (by omega)) hBy (fun i hi => Nat.le_trans (hfw.told i (by omega)) (by decide)) (fun _ _ _ => False) (fun _ _ _ _ h _ => h) (fun hb => by rw [hc'] at hb; cases hb)).mono ?_
  rw [hc']
  rintro e w' (⟨hb, gt, pb, nb, cb, pr, cr, vs, rfl, hI⟩ | ⟨hb, _⟩)
  · exact ⟨gt, rfl, ⟨_, d, pb, nb, cb, pr, cr, vs, w.heap.size, hS.marked hI.hb, hI.tb hgl, by have := hI.ge; have := hS.lw; omega, hI.to hgl, hI.hb.size⟩, hI.hb⟩
  · cases hb

end Go.Proofs.Ytpjhadaiodnnaaa.M
