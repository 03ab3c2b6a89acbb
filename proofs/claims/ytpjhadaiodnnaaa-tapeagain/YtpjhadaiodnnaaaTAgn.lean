/-
  Own text: two tapes beside one another; what is opened is opened once more as the same.
-/
import Derived.Test.YtpjhadaiodnnaaaTAsk
import Derived.Test.YtpjhadaiodnnaaaECl3
namespace Go.Proofs.Ytpjhadaiodnnaaa.M
open Go.ChangeShapes Go.WideShapes Go.ChangeAt Go.RowKit
set_option linter.unusedSimpArgs false

theorem DA.chE {S : Nat → Prop} {w w' : World} {B : Nat} {own : Nat → Nat} {a g : Nat} {d : Dk} {m : PD} (h : DA w B own a g d m) (hc : Ch S w w') (hg : ¬ S g) (hs : ∀ i k, i < 8 → own k = mark a i → ¬ S k) (hk : m.keep = []) : DA w' B own a g d m :=
  ⟨h.dc.ch hc hg, h.room, h.down, h.left, h.cl, fun i hi => (h.fm i hi).ch hc (fun k => hs i k hi) (fun _ _ => rfl), by
    have h1 := h.keep
    have h0 : d.kn = 0 := by rw [← h1.len, hk]; rfl
    exact ⟨h1.len, h1.cap, h1.nil, fun hn => by omega⟩, h.og, fun x e => ⟨(h.ok x e).1, (h.ok x e).2.1, Nat.lt_of_lt_of_le (h.ok x e).2.2 hc.size⟩, h.bg, fun k hk => h.fr k (Nat.le_trans hc.size hk)⟩

/-- A tape and its disk, where only what is foreign to them changes. -/
theorem TSx.ch {S : Nat → Prop} {w w' : World} {L a g gt : Nat} {own : Nat → Nat} {m : PD} {t : TP} (h : TSx w L a g gt own m t) (hc : Ch S w w') (hk : m.keep = []) (hs : ∀ k, ¬ Fgn own g k → ¬ S k) : TSx w' L a g gt own m t := by
  obtain ⟨d, pb, nb, cb, pr, cr, vs, Bv, h1, h2, h3, h4, h5⟩ := h
  have hfar : ∀ k, Fre own g k → ¬ S k := fun k hf => hs k (fun e => by have := e.1; rw [hf.1] at this; cases this)
  have hD : DA w' L own a g d m := h1.da.chE hc (hs g (fun e => e.2 rfl)) (fun i k _ e => hs k (fun e2 => by rw [e2.1] at e; unfold mark at e; omega)) hk
  have hO : TO w' own Bv g gt t pb nb cb pr cr vs := h4.ch hc (fun k hf _ => hfar k hf) (fun _ _ e => e)
  exact ⟨d, pb, nb, cb, pr, cr, vs, Bv, ⟨hD, Nat.le_trans h1.lw hc.size, h1.lg, h1.low⟩, hO.tb (h2.blk.ch hc (hfar gt h2.fg)) h2.fg, h3, hO, Nat.le_trans h5 hc.size⟩

theorem allR_flat (xs : List Int) (hx : By xs) : (((allR xs).1.map sealL).flatten).length ≤ xs.length := by
  have key : ∀ f (ys : List Int), By ys → (((allF f ys).1.map sealL).flatten).length ≤ ys.length := by
    intro f
    induction f with
    | zero => intro ys _; exact Nat.zero_le _
    | succ f ih =>
      intro ys hy
      unfold allF
      by_cases h : (openR ys).2.2 = 0
      · rw [if_pos h]
        obtain ⟨d, rest, e1, _, _, e2⟩ := openR_form hy h
        have := ih (ys.drop (openR ys).2.1) (hy.drop _)
        rw [e1] at this ⊢
        dsimp only at this ⊢
        rw [List.length_drop] at this
        rw [List.map_cons, List.flatten_cons, List.length_append]
        have h3 : (sealL d).length ≤ ys.length := by rw [e2, List.length_append]; omega
        omega
      · rw [if_neg h]
        exact Nat.zero_le _
  exact key _ xs hx

theorem ldR_flat {xs : List Int} (h : By xs) : (((ldR xs).1.recs.map sealL).flatten).length ≤ xs.length := by
  unfold ldR
  by_cases h0 : (allR xs).1 = []
  · rw [if_pos h0]
    exact Nat.zero_le _
  · rw [if_neg h0]
    split
    · refine Nat.le_trans ?_ (allR_flat xs h)
      dsimp only
      cases hA : (allR xs).1 with
      | nil => exact absurd hA h0
      | cons x l =>
        rw [List.drop_one, List.tail_cons, List.map_cons, List.flatten_cons, List.length_append]
        omega
    · exact Nat.zero_le _

/-- Of the reel that counts: no file has a newer one; its records came out of a file. -/
theorem cnt_ge {m : PD} (h : ∀ i, i < 2 → By (m.f i).told) : (∀ i, i < 2 → (ldR (m.f i).told).1.gen ≤ (cnt m).2.1.gen) ∧ ∀ s, (∀ i, i < 2 → (m.f i).told.length ≤ s) → (((cnt m).2.1.recs.map sealL).flatten).length ≤ s := by
  have key : ∀ k, k ≤ 2 → (∀ i, i < k → (ldR (m.f i).told).1.gen ≤ (scT (fun i => (m.f i).told) k).2.1.gen) ∧ ∀ s, (∀ i, i < 2 → (m.f i).told.length ≤ s) → (((scT (fun i => (m.f i).told) k).2.1.recs.map sealL).flatten).length ≤ s := by
    intro k
    induction k with
    | zero => intro _; exact ⟨fun _ h => absurd h (Nat.not_lt_zero _), fun s _ => Nat.zero_le _⟩
    | succ k ih =>
      intro hk
      have ih := ih (by omega)
      rw [scT]
      split
      · rename_i hlt
        refine ⟨fun i hi => ?_, fun s hs => Nat.le_trans (ldR_flat (h k (by omega))) (hs k (by omega))⟩
        by_cases e : i = k
        · subst e; exact Int.le_refl _
        · have := ih.1 i (by omega)
          show _ ≤ (ldR (m.f k).told).1.gen
          omega
      · rename_i hlt
        refine ⟨fun i hi => ?_, ih.2⟩
        by_cases e : i = k
        · subst e; omega
        · exact ih.1 i (by omega)
  exact key 2 (Nat.le_refl _)

/-- A disk with at most so many bytes in its two first files, and none elsewhere. -/
structure Two (m : PD) (s : Nat) : Prop where
  lens : ∀ i, i < 2 → (m.f i).told.length ≤ s
  rest : ∀ i, 2 ≤ i → i < 8 → (m.f i).told.length = 0
  bys : ∀ i, i < 2 → By (m.f i).told

theorem used_two {m : PD} {s : Nat} (h : ∀ i, i < 2 → (m.f i).told.length ≤ s) (hr : ∀ i, 2 ≤ i → i < 8 → (m.f i).told.length = 0) : m.used ≤ 2 * s := by
  unfold PD.used
  have h0 := h 0 (by decide)
  have h1 := h 1 (by decide)
  have h2 := hr 2 (by decide) (by decide)
  have h3 := hr 3 (by decide) (by decide)
  have h4 := hr 4 (by decide) (by decide)
  have h5 := hr 5 (by decide) (by decide)
  have h6 := hr 6 (by decide) (by decide)
  have h7 := hr 7 (by decide) (by decide)
  omega

theorem fitsR_of {n : Nat} {recs : List (List Int)} (h1 : n ≤ 8176) (h2 : ∀ i, i < recs.length → (recs.getD i []).length ≤ 8192) : fitsR n recs = true := by
  unfold fitsR
  rw [decide_eq_true h1, Bool.true_and]
  exact shortV_yes h2

/-- What is opened: the range is at its end, or it is opened once more as the same. -/
theorem opM_again {m : PD} (hc : Cal m) (h : Two m 16384) (hroom : m.room = 2097152) :
    (opM m).1 = 5 ∨ ((opM m).1 = 0 ∧ cnt (opM m).2.1 = ((opM m).2.2.file, (opM m).2.2.r, true) ∧ (opM m).2.2.kept = (opM m).2.2.r.recs.length ∧ Cal (opM m).2.1 ∧ (∀ i, i < 2 → By ((opM m).2.1.f i).told) ∧ (opM m).2.2.r.fit ∧ (opM m).2.2.file ≤ 1 ∧ (opM m).2.2.r.recs.length ≤ 4096 ∧ (opM m).2.1.keep = m.keep ∧ (∀ s, m.ok s → (opM m).2.1.ok (s + 40000000))) := by
  obtain ⟨hf, hfit, hg40, hn5⟩ := cnt_fit h.bys
  obtain ⟨hge, hfl⟩ := cnt_ge h.bys
  have hn := hn5 16384 h.lens
  have hfl := hfl 16384 h.lens
  unfold opM
  by_cases hw : (cnt m).2.2 = true
  · rw [if_pos hw]
    refine Or.inr ⟨rfl, ?_, rfl, hc, h.bys, hfit, hf, by show (cnt m).2.1.recs.length ≤ 4096; omega, rfl, fun s hs => hs.mono (Nat.le_add_right _ _)⟩
    show cnt m = ((cnt m).1, (cnt m).2.1, true)
    rw [← hw]
  · rw [if_neg hw]
    unfold svT
    split
    · exact Or.inl rfl
    · rename_i h40
      have h40' : ¬ 1099511627776 ≤ (cnt m).2.1.gen := h40
      have hfb := fitsR_of hfit.base.1 (fun i hi => (hfit.recs i hi).2)
      rw [if_neg (by rw [hfb]; decide)]
      have hg0 := hfit.gen
      rcases hc.write (1 - (cnt m).1) (sealR ⟨(cnt m).2.1.gen + 1, (cnt m).2.1.base, (cnt m).2.1.recs⟩) with e | e
      · exfalso
        have h1 : (wrM m (1 - (cnt m).1) (sealR ⟨(cnt m).2.1.gen + 1, (cnt m).2.1.base, (cnt m).2.1.recs⟩)).2 = 7 := by rw [e]
        unfold wrM at h1
        rw [if_neg (by rw [hc.gone]; decide)] at h1
        rw [if_neg] at h1
        · have hcc : Cal (m.clearAt (1 - (cnt m).1)) := by rw [hc.clear]; exact hc.f _
          rw [if_neg (by rw [hcc.gone]; decide)] at h1
          have h2 : goneE (((m.clearAt (1 - (cnt m).1)).putAt (1 - (cnt m).1) (sealR ⟨(cnt m).2.1.gen + 1, (cnt m).2.1.base, (cnt m).2.1.recs⟩)).gone 1) = 7 := h1
          unfold goneE at h2
          split at h2
          · exact absurd h2 (by decide)
          · exact absurd h2 (by decide)
        · rw [hc.clear]
          show ¬ m.room < _
          have hu : ({ m with f := upP m.f (1 - (cnt m).1) ⟨[], (m.f (1 - (cnt m).1)).lasts, true⟩ } : PD).used ≤ 2 * 16384 := by
            refine used_two (fun i hi => ?_) (fun i h2 h8 => ?_)
            · show (upP m.f (1 - (cnt m).1) _ i).told.length ≤ _
              by_cases e2 : i = 1 - (cnt m).1
              · rw [e2, upP_same]; exact Nat.zero_le _
              · rw [up_other e2]; exact h.lens i hi
            · show (upP m.f (1 - (cnt m).1) _ i).told.length = 0
              rw [up_other (by omega)]
              exact h.rest i h2 h8
          have hs : (sealR ⟨(cnt m).2.1.gen + 1, (cnt m).2.1.base, (cnt m).2.1.recs⟩).length ≤ 8206 + 16384 := by
            unfold sealR
            rw [List.length_append, headR_hd]
            have h1 := sealL_len_le (hdR_ok (gen := ((cnt m).2.1.gen + 1).toNat) (ns := (cnt m).2.1.recs.length) (base := (cnt m).2.1.base) (by omega) (by omega) hfit.base).2
            show (sealL (hdR ((cnt m).2.1.gen + 1).toNat (cnt m).2.1.recs.length (cnt m).2.1.base)).length + (((cnt m).2.1.recs.map sealL).flatten).length ≤ _
            omega
          omega
      · rw [e]
        dsimp only
        rw [if_pos rfl]
        have hL : Liv { m with f := upP m.f (1 - (cnt m).1) ⟨sealR ⟨(cnt m).2.1.gen + 1, (cnt m).2.1.base, (cnt m).2.1.recs⟩, sealR ⟨(cnt m).2.1.gen + 1, (cnt m).2.1.base, (cnt m).2.1.recs⟩, false⟩ } ⟨1 - (cnt m).1, (cnt m).2.1.recs.length, ⟨(cnt m).2.1.gen + 1, (cnt m).2.1.base, (cnt m).2.1.recs⟩⟩ := by
          refine ⟨by show 1 - (cnt m).1 ≤ 1; omega, by show 1 ≤ (cnt m).2.1.gen + 1 ∧ (cnt m).2.1.gen + 1 ≤ 1099511627776; omega, hfit.base, fun d hd => getD_all (P := fun d => By d ∧ d.length ≤ 8192) hfit.recs d hd, ⟨(cnt m).2.1.recs.length, Nat.le_refl _, by omega, ?_⟩, ?_, fun i hi => ?_⟩
          · show (upP m.f (1 - (cnt m).1) _ (1 - (cnt m).1)).told = _
            rw [upP_same]
            exact sealR_file _
          · show (ldR (upP m.f (1 - (cnt m).1) _ (1 - (1 - (cnt m).1))).told).1.gen < (cnt m).2.1.gen + 1
            rw [show 1 - (1 - (cnt m).1) = (cnt m).1 by omega, up_other (by omega)]
            have := hge (cnt m).1 (by omega)
            omega
          · show By (upP m.f (1 - (cnt m).1) _ i).told
            by_cases e2 : i = 1 - (cnt m).1
            · rw [e2, upP_same]
              show By (sealR _)
              rw [sealR_file]
              exact fileR_by hfit.base.2 (fun d hd => (getD_all (P := fun d => By d ∧ d.length ≤ 8192) hfit.recs d hd).1)
            · rw [up_other e2]
              exact h.bys i hi
        refine Or.inr ⟨rfl, hL.cnt, rfl, hc.f _, hL.bys, ⟨by show 0 ≤ (cnt m).2.1.gen + 1; omega, hfit.base, hfit.recs⟩, by show 1 - (cnt m).1 ≤ 1; omega, by show (cnt m).2.1.recs.length ≤ 4096; omega, rfl, fun s hs => ?_⟩
        have hwo := wrM_ok hs (i := 1 - (cnt m).1) (by omega) (sealR ⟨(cnt m).2.1.gen + 1, (cnt m).2.1.base, (cnt m).2.1.recs⟩)
        rw [e] at hwo
        refine hwo.mono ?_
        have := sealR_len2 (r := ⟨(cnt m).2.1.gen + 1, (cnt m).2.1.base, (cnt m).2.1.recs⟩) hfit.base (by show 0 ≤ (cnt m).2.1.gen + 1 ∧ (cnt m).2.1.gen + 1 ≤ 1099511627776; omega) (by show (cnt m).2.1.recs.length ≤ 1000000; omega) (fun i hi => (hfit.recs i hi).2)
        have e3 : (sealR ⟨(cnt m).2.1.gen + 1, (cnt m).2.1.base, (cnt m).2.1.recs⟩).length ≤ 8206 * ((cnt m).2.1.recs.length + 1) := this
        omega

theorem Cal.ptk {m : PD} {t : TP} {xs : List Int} (h : Cal m) : (ptT m t xs).2.1.keep = m.keep ∧ Cal (ptT m t xs).2.1 := by
  unfold ptT
  split
  · exact ⟨rfl, h⟩
  · rcases h.put t.file (sealL xs) with e | e
    · rw [e]; exact ⟨rfl, h⟩
    · rw [e]; exact ⟨rfl, h.f _⟩

theorem ptT_file {m : PD} {t : TP} {xs : List Int} : (ptT m t xs).2.2.file = t.file ∧ (ptT m t xs).2.2.r.base = t.r.base ∧ (ptT m t xs).2.2.r.recs.length ≤ t.r.recs.length + 1 ∧ ((∀ d ∈ t.r.recs, d.length ≤ 8192) → ∀ d ∈ (ptT m t xs).2.2.r.recs, d.length ≤ 8192) := by
  unfold ptT
  split
  · exact ⟨rfl, rfl, Nat.le_succ _, fun h => h⟩
  · rename_i hl
    dsimp only
    split
    · refine ⟨rfl, rfl, by show (t.r.recs ++ [xs]).length ≤ _; rw [List.length_append]; exact Nat.le_refl _, fun h d hd => ?_⟩
      rcases List.mem_append.1 hd with hd | hd
      · exact h d hd
      · rw [List.mem_singleton] at hd
        rw [hd]
        omega
    · exact ⟨rfl, rfl, Nat.le_succ _, fun h => h⟩

/-- Two tapes beside one another. -/
structure Pr (w : World) (L L2 g gt gc gu : Nat) (o1 o2 : Nat → Nat) (m : PD) (t : TP) (m2 : PD) (t2 : TP) : Prop where
  t1 : TSx w L 0 g gt o1 m t
  t2 : TSx w L2 1 gc gu o2 m2 t2
  dis : ∀ k, Fgn o1 g k ∨ Fgn o2 gc k
  k1 : m.keep = []
  k2 : m2.keep = []

theorem Pr.below {w w' : World} {L L2 g gt gc gu : Nat} {o1 o2 : Nat → Nat} {m : PD} {t : TP} {m2 : PD} {t2 : TP} (h : Pr w L L2 g gt gc gu o1 o2 m t m2 t2) (hb : Below w.heap.size w w') : Pr w' L L2 g gt gc gu o1 o2 m t m2 t2 := ⟨h.t1.below hb, h.t2.below hb, h.dis, h.k1, h.k2⟩

theorem Pr.swap {w : World} {L L2 g gt gc gu : Nat} {o1 o2 : Nat → Nat} {m : PD} {t : TP} {m2 : PD} {t2 : TP} (h : Pr w L L2 g gt gc gu o1 o2 m t m2 t2) : ∀ k, Fgn o2 gc k ∨ Fgn o1 g k := fun k => (h.dis k).symm

/-- Put of the first one. -/
theorem Pr.put1 {w : World} {L L2 g gt gc gu : Nat} {o1 o2 : Nat → Nat} {m : PD} {t : TP} {m2 : PD} {t2 : TP} (h : Pr w L L2 g gt gc gu o1 o2 m t m2 t2) (s : Nat) (hc : Cal m) (ho : m.ok s) (hs : s ≤ 274877906944) (hf : t.file ≤ 1) (hn : t.r.recs.length < 1000000) (q : Option Addr) (n c : Nat) (xs : List Int) (hr : Rd .u8 w q n c xs) (hy : By xs) (hlow : ∀ x, q = some x → 0 < n → x.block < L) :
    Calls Try.prog 23 #[.pointer (some ⟨gt, 0, none⟩), .slice q n c] w fun e w' => e = .returned (.int .i64 (ptT m t xs).1) ∧ ∃ o1', Pr w' L L2 g gt gc gu o1' o2 (ptT m t xs).2.1 (ptT m t xs).2.2 m2 t2 ∧ Ch (fun k => ¬ Fgn o1 g k) w w' := by
  refine (Put_S w w L 0 g gt o1 m t s (by decide) h.t1 (Below.refl _ _) ⟨ho, hc.up⟩ hs hf hn q n c xs hr hy (fun x e h0 => h.t1.old (hlow x e h0))).mono ?_
  rintro e w' ⟨rfl, o1', h1, h2, h3⟩
  refine ⟨rfl, o1', ⟨h1, h.t2.ch h3 h.k2 (fun k hk e => (h.dis k).elim (fun h4 => e h4) hk), fun k => ?_, hc.ptk.1.trans h.k1, h.k2⟩, h3⟩
  rcases Nat.lt_or_ge k w.heap.size with hk | hk
  · exact (h.dis k).imp (fun h4 => h4.to hk h2) id
  · exact Or.inr (h.t2.new hk)

/-- Put of the second one. -/
theorem Pr.put2 {w : World} {L L2 g gt gc gu : Nat} {o1 o2 : Nat → Nat} {m : PD} {t : TP} {m2 : PD} {t2 : TP} (h : Pr w L L2 g gt gc gu o1 o2 m t m2 t2) (s : Nat) (hc : Cal m2) (ho : m2.ok s) (hs : s ≤ 274877906944) (hf : t2.file ≤ 1) (hn : t2.r.recs.length < 1000000) (q : Option Addr) (n c : Nat) (xs : List Int) (hr : Rd .u8 w q n c xs) (hy : By xs) (hlow : ∀ x, q = some x → 0 < n → x.block < L2) :
    Calls Try.prog 23 #[.pointer (some ⟨gu, 0, none⟩), .slice q n c] w fun e w' => e = .returned (.int .i64 (ptT m2 t2 xs).1) ∧ ∃ o2', Pr w' L L2 g gt gc gu o1 o2' m t (ptT m2 t2 xs).2.1 (ptT m2 t2 xs).2.2 ∧ Ch (fun k => ¬ Fgn o2 gc k) w w' := by
  refine (Put_S w w L2 1 gc gu o2 m2 t2 s (by decide) h.t2 (Below.refl _ _) ⟨ho, hc.up⟩ hs hf hn q n c xs hr hy (fun x e h0 => h.t2.old (hlow x e h0))).mono ?_
  rintro e w' ⟨rfl, o2', h1, h2, h3⟩
  refine ⟨rfl, o2', ⟨h.t1.ch h3 h.k1 (fun k hk e => (h.dis k).elim hk (fun h4 => e h4)), h1, fun k => ?_, h.k1, hc.ptk.1.trans h.k2⟩, h3⟩
  rcases Nat.lt_or_ge k w.heap.size with hk | hk
  · exact (h.dis k).imp id (fun h4 => h4.to hk h2)
  · exact Or.inl (h.t1.new hk)

theorem Clone_X (w : World) (L a b g gt : Nat) (own : Nat → Nat) (m : PD) (t : TP) (s : Nat) (hT : TSx w L a g gt own m t) (hm : m.ok s) (hs : s ≤ 274877906944) :
    Calls Try.prog 29 #[.pointer (some ⟨g, 0, none⟩)] w fun e w' => ∃ gc, e = .returned (.pointer (some ⟨gc, 0, none⟩)) ∧ (∃ own2 d, DS w' w.heap.size b gc own2 d m) ∧ Below w.heap.size w w' := by
  obtain ⟨d, pb, nb, cb, pr, cr, vs, Bv, h1, h2, h3, h4, h5⟩ := hT
  refine (Clone_new w L own a b g d m s h1.da hm (by omega) h1.lw).mono ?_
  rintro e w' ⟨gc, own2, d2, rfl, h1, h2, h3, h4, h5, h6⟩
  exact ⟨gc, rfl, ⟨own2, d2, h3, h6.size, h1, h4⟩, h6⟩

/-- Open where what counts is whole, its marks told. -/
theorem Open_wx (w : World) (L a g : Nat) (own : Nat → Nat) (m : PD) (s : Nat) (hD : ∃ d, DS w L a g own d m) (hm : Fit m s) (hs : s ≤ 274877906944) (hBy : ∀ i, i < 2 → By (m.f i).told) (f : Nat) (r : PR) (hc : cnt m = (f, r, true)) :
    Calls Try.prog 13 #[.pointer (some ⟨g, 0, none⟩)] w fun e w' => ∃ gt own2, e = .returned (.tuple #[.pointer (some ⟨gt, 0, none⟩), .int .i64 0]) ∧ TSx w' L a g gt own2 m ⟨f, r.recs.length, r⟩ ∧ (∀ k, k < w.heap.size → own2 k = own k) ∧ Below w.heap.size w w' := by
  obtain ⟨d, hS⟩ := hD
  have hgl : g < w.heap.size := hS.da.dc.lt
  have hfw : m.few := hm.ok.few (by omega)
  have hc' : scT (fun i => (m.f i).told) 2 = (f, r, true) := hc
  refine (TOpen_gen w g (fun i => (m.f i).told) (fun wr hb i hi => Read_O wr L own a g d m (hS.da.below hb) hm.ok.r0 hm.up hfw i (by omega)) hBy (fun i hi => Nat.le_trans (hfw.told i (by omega)) (by decide)) (fun _ _ _ => False) (fun _ _ _ _ h _ => h) (fun hb => by rw [hc'] at hb; cases hb)).mono ?_
  rw [hc']
  rintro e w' (⟨hb, gt, pb, nb, cb, pr, cr, vs, rfl, hI⟩ | ⟨hb, _⟩)
  · exact ⟨gt, _, rfl, ⟨d, pb, nb, cb, pr, cr, vs, w.heap.size, hS.marked hI.hb, hI.tb hgl, by have := hI.ge; have := hS.lw; omega, hI.to hgl, hI.hb.size⟩, fun k hk => farO_low hk, hI.hb⟩
  · cases hb

end Go.Proofs.Ytpjhadaiodnnaaa.M
