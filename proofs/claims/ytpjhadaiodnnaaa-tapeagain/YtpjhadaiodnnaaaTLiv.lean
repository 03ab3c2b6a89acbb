/-
  Own text: a tape whose files are as they should be stays so, whatever is put and saved, on a disk without a fuse.
-/
import Derived.Test.YtpjhadaiodnnaaaTPure
namespace Go.Proofs.Ytpjhadaiodnnaaa.M
open Go.ChangeShapes Go.WideShapes Go.ChangeAt Go.RowKit
set_option linter.unusedSimpArgs false

/-- A disk with power and without a fuse. -/
structure Cal (m : PD) : Prop where
  left : m.left = 0
  up : m.down = false

theorem Cal.gone {m : PD} (h : Cal m) (n : Nat) : m.gone n = false := by
  unfold PD.gone
  exact decide_eq_false (by have := h.left; omega)

theorem Cal.act {m : PD} (h : Cal m) (n : Nat) (X : Nat → Nat → PF) : m.act n X = { m with f := X n } := by unfold PD.act; rw [if_pos h.left]

theorem Cal.f {m : PD} (h : Cal m) (f : Nat → PF) : Cal { m with f := f } := ⟨h.left, h.up⟩

theorem ldR_nil : (ldR []).1.gen = 0 := by
  unfold ldR
  rw [if_pos (by rw [allR_end (by rw [openR_nil]; decide)])]
  rfl

theorem Cal.put {m : PD} (h : Cal m) (i : Nat) (bs : List Int) : ptM m i bs = (m, 7) ∨ ptM m i bs = ({ m with f := upP m.f i { m.f i with told := (m.f i).told ++ bs } }, 0) := by
  unfold ptM
  split
  · exact Or.inl rfl
  · refine Or.inr ?_
    unfold PD.putAt
    rw [h.act, h.gone, List.take_length]
    rfl

theorem Cal.clear {m : PD} (h : Cal m) (i : Nat) : m.clearAt i = { m with f := upP m.f i ⟨[], (m.f i).lasts, true⟩ } := by
  unfold PD.clearAt
  rw [h.act]

theorem Cal.write {m : PD} (h : Cal m) (i : Nat) (bs : List Int) : wrM m i bs = ({ m with f := upP m.f i ⟨[], (m.f i).lasts, true⟩ }, 7) ∨ wrM m i bs = ({ m with f := upP m.f i ⟨bs, bs, false⟩ }, 0) := by
  unfold wrM
  rw [if_neg (by rw [h.gone]; decide), h.clear]
  split
  · exact Or.inl rfl
  · refine Or.inr ?_
    have h1 := h.f (upP m.f i ⟨[], (m.f i).lasts, true⟩)
    rw [if_neg (by rw [h1.gone]; decide)]
    have e1 : ({ m with f := upP m.f i ⟨[], (m.f i).lasts, true⟩ } : PD).putAt i bs = { m with f := upP m.f i ⟨bs, (m.f i).lasts, true⟩ } := by
      unfold PD.putAt
      rw [h1.act]
      dsimp only
      rw [upP_same, upP_up, List.take_length, List.nil_append]
    rw [e1]
    have h2 := h.f (upP m.f i ⟨bs, (m.f i).lasts, true⟩)
    unfold PD.syncAt
    rw [h2.act, h2.gone]
    dsimp only
    rw [upP_same, upP_up]
    rfl

theorem up_other {f : Nat → PF} {i j : Nat} {x : PF} (h : j ≠ i) : upP f i x j = f j := upP_other f x h

theorem Liv.put {m : PD} {t : TP} {xs : List Int} (h : Liv m t) (hc : Cal m) (hx : By xs) : Liv (ptT m t xs).2.1 (ptT m t xs).2.2 ∧ Cal (ptT m t xs).2.1 := by
  unfold ptT
  split
  · exact ⟨h, hc⟩
  · rename_i hl
    rcases hc.put t.file (sealL xs) with e | e
    · rw [e]
      dsimp only
      rw [if_neg (by decide)]
      exact ⟨h, hc⟩
    · rw [e]
      dsimp only
      rw [if_pos rfl]
      refine ⟨⟨h.file, h.gen, h.base, fun d hd => ?_, ?_, ?_, fun i hi => ?_⟩, hc.f _⟩
      · rcases List.mem_append.1 hd with hd | hd
        · exact h.recs d hd
        · rw [List.mem_singleton] at hd
          rw [hd]
          exact ⟨hx, by omega⟩
      · obtain ⟨ns, h1, h2, h3⟩ := h.mine
        refine ⟨ns, ?_, h2, ?_⟩
        · show ns ≤ (t.r.recs ++ [xs]).length
          rw [List.length_append]
          omega
        · show (upP m.f t.file _ t.file).told = _
          rw [upP_same]
          show (m.f t.file).told ++ sealL xs = _
          rw [h3, fileR_put]
      · show (ldR (upP m.f t.file _ (1 - t.file)).told).1.gen < t.r.gen
        rw [up_other (by have := h.file; omega)]
        exact h.other
      · show By (upP m.f t.file _ i).told
        by_cases e2 : i = t.file
        · rw [e2, upP_same]
          exact By.app (h.bys t.file (by have := h.file; omega)) (sealL_by hx)
        · rw [up_other e2]
          exact h.bys i hi

theorem Liv.sync {m : PD} {t : TP} (h : Liv m t) (hc : Cal m) : Liv (syT m t).2.1 (syT m t).2.2 ∧ Cal (syT m t).2.1 ∧ (syT m t).2.2.r = t.r := by
  unfold syT
  dsimp only
  rw [hc.gone]
  have e0 : goneE false = 0 := rfl
  rw [if_pos e0]
  unfold PD.syncAt
  rw [hc.act]
  have key : ∀ i, (upP m.f t.file ⟨(m.f t.file).told, (m.f t.file).told, false⟩ i).told = (m.f i).told := fun i => by
    by_cases e2 : i = t.file
    · rw [e2, upP_same]
    · rw [up_other e2]
  refine ⟨⟨h.file, h.gen, h.base, h.recs, ?_, ?_, fun i hi => ?_⟩, hc.f _, rfl⟩
  · obtain ⟨ns, h1, h2, h3⟩ := h.mine
    exact ⟨ns, h1, h2, (key t.file).trans h3⟩
  · show (ldR (upP m.f t.file _ (1 - t.file)).told).1.gen < t.r.gen
    rw [key]
    exact h.other
  · show By (upP m.f t.file _ i).told
    rw [key]
    exact h.bys i hi

theorem Liv.save {m : PD} {t : TP} {base : List Int} {recs : List (List Int)} (h : Liv m t) (hc : Cal m) (hb : By base) (hr : ∀ d ∈ recs, By d) (hn : recs.length ≤ 1000000) : Liv (svT m t base recs).2.1 (svT m t base recs).2.2 ∧ Cal (svT m t base recs).2.1 := by
  unfold svT
  split
  · exact ⟨h, hc⟩
  · rename_i h40
    split
    · exact ⟨h, hc⟩
    · rename_i hfit
      obtain ⟨hf1, hf2⟩ := fits_yes hfit
      have hfi := h.file
      have hg := h.gen
      have hne : t.file ≠ 1 - t.file := by omega
      rcases hc.write (1 - t.file) (sealR ⟨t.r.gen + 1, base, recs⟩) with e | e
      · rw [e]
        dsimp only
        rw [if_neg (by decide)]
        refine ⟨⟨h.file, h.gen, h.base, h.recs, ?_, ?_, fun i hi => ?_⟩, hc.f _⟩
        · obtain ⟨ns, h1, h2, h3⟩ := h.mine
          refine ⟨ns, h1, h2, ?_⟩
          show (upP m.f (1 - t.file) _ t.file).told = _
          rw [up_other hne]
          exact h3
        · show (ldR (upP m.f (1 - t.file) _ (1 - t.file)).told).1.gen < t.r.gen
          rw [upP_same, ldR_nil]
          omega
        · show By (upP m.f (1 - t.file) _ i).told
          by_cases e2 : i = 1 - t.file
          · rw [e2, upP_same]
            exact By.nil
          · rw [up_other e2]
            exact h.bys i hi
      · rw [e]
        dsimp only
        rw [if_pos rfl]
        have hgen : (t.r.gen + 1).toNat = t.r.gen.toNat + 1 := by omega
        refine ⟨⟨by show 1 - t.file ≤ 1; omega, by show 1 ≤ t.r.gen + 1 ∧ t.r.gen + 1 ≤ 1099511627776; omega, ⟨hf1, hb⟩, fun d hd => ⟨hr d hd, getD_all (P := fun d => d.length ≤ 8192) hf2 d hd⟩, ?_, ?_, fun i hi => ?_⟩, hc.f _⟩
        · refine ⟨recs.length, Nat.le_refl _, hn, ?_⟩
          show (upP m.f (1 - t.file) _ (1 - t.file)).told = _
          rw [upP_same]
          exact sealR_file _
        · show (ldR (upP m.f (1 - t.file) _ (1 - (1 - t.file))).told).1.gen < t.r.gen + 1
          rw [show 1 - (1 - t.file) = t.file by omega, up_other hne, h.load]
          show t.r.gen < t.r.gen + 1
          omega
        · show By (upP m.f (1 - t.file) _ i).told
          by_cases e2 : i = 1 - t.file
          · rw [e2, upP_same]
            show By (sealR _)
            rw [sealR_file]
            exact fileR_by hb hr
          · rw [up_other e2]
            exact h.bys i hi

theorem ptT_no {m : PD} {t : TP} {xs : List Int} (h : (ptT m t xs).1 ≠ 0) : (ptT m t xs).2.2 = t := by
  unfold ptT at h ⊢
  split
  · rfl
  · rename_i hl
    rw [if_neg hl] at h
    exact if_neg h

theorem svT_no {m : PD} {t : TP} {base : List Int} {recs : List (List Int)} (h : (svT m t base recs).1 ≠ 0) : (svT m t base recs).2.2 = t := by
  unfold svT at h ⊢
  split
  · rfl
  · rename_i h1
    rw [if_neg h1] at h
    split
    · rfl
    · rename_i h2
      rw [if_neg h2] at h
      exact if_neg h

theorem sealR_len2 {r : PR} (hb : r.base.length ≤ 8176 ∧ By r.base) (hg : 0 ≤ r.gen ∧ r.gen ≤ 1099511627776) (hn : r.recs.length ≤ 1000000) (h : ∀ i, i < r.recs.length → (r.recs.getD i []).length ≤ 8192) : (sealR r).length ≤ 8206 * (r.recs.length + 1) := by
  unfold sealR
  rw [List.length_append, headR_hd]
  have h1 := sealL_len_le (hdR_ok (gen := r.gen.toNat) (ns := r.recs.length) (by omega) hn hb).2
  have h2 := flat_len (l := r.recs) h r.recs.length (Nat.le_refl _)
  rw [List.take_length] at h2
  omega

theorem ptT_ok {m : PD} {t : TP} {xs : List Int} {s : Nat} (h : m.ok s) (hf : t.file ≤ 1) : (ptT m t xs).2.1.ok (s + 8206) := by
  unfold ptT
  split
  · exact h.mono (Nat.le_add_right _ _)
  · rename_i hl
    exact (ptM_ok h (by omega) (sealL xs)).mono (by have := sealL_len_le (ys := xs) (by omega); omega)

theorem svT_ok {m : PD} {t : TP} {base : List Int} {recs : List (List Int)} {s : Nat} (h : m.ok s) (hf : t.file ≤ 1) (hg : 0 ≤ t.r.gen) (hb : By base) (hn : recs.length ≤ 1000000) : (svT m t base recs).2.1.ok (s + 8206 * (recs.length + 1)) := by
  unfold svT
  split
  · exact h.mono (Nat.le_add_right _ _)
  · rename_i h40
    split
    · exact h.mono (Nat.le_add_right _ _)
    · rename_i hfit
      obtain ⟨hf1, hf2⟩ := fits_yes hfit
      refine (wrM_ok h (show 1 - t.file < 8 by omega) _).mono ?_
      have := sealR_len2 (r := ⟨t.r.gen + 1, base, recs⟩) ⟨hf1, hb⟩ (by show 0 ≤ t.r.gen + 1 ∧ t.r.gen + 1 ≤ 1099511627776; omega) hn hf2
      show s + (sealR ⟨t.r.gen + 1, base, recs⟩).length ≤ s + 8206 * (recs.length + 1)
      have e : (sealR ⟨t.r.gen + 1, base, recs⟩).length ≤ 8206 * (recs.length + 1) := this
      omega

end Go.Proofs.Ytpjhadaiodnnaaa.M
