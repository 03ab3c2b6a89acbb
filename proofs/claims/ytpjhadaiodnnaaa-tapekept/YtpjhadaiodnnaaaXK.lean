/-
  Own text: what is left of a tape behind a crash, in plain words: a beginning of its file is a reel with its first records, or none.
  Own text: what each call leaves of a tape with a fuse, in plain words: what would be opened behind a crash.
  Own text: a law's own blocks, marked, beside a tape: what the tape does leaves them, and what the law does to them leaves the tape.
  Own text: what the law TapeKept calls besides: texts, a clone of texts, between, reopened.
  Own text: the rows that the law TapeKept keeps beside a tape, and what becomes of them.
  Own text: the law's rows behind what the law itself does to them.
-/
import Derived.Test.YtpjhadaiodnnaaaXE
section
namespace Go.Proofs.Ytpjhadaiodnnaaa.M
open Go.ChangeShapes Go.WideShapes Go.ChangeAt Go.RowKit
set_option linter.unusedSimpArgs false

/-- The first bytes of sealed records: some of them, whole, and what is none. -/
theorem seals_take : ∀ (l : List (List Int)), (∀ d ∈ l, By d ∧ d.length ≤ 8192) → ∀ j, ∃ i rest, i ≤ l.length ∧ ((l.map sealL).flatten).take j = ((l.take i).map sealL).flatten ++ rest ∧ By rest ∧ (openR rest).2.2 ≠ 0 ∧ (∀ kk, kk ≤ l.length → (((l.take kk).map sealL).flatten).length ≤ j → kk ≤ i) ∧ (((l.take i).map sealL).flatten).length ≤ j
  | [], _, j => ⟨0, [], Nat.le_refl _, by simp, By.nil, by rw [openR_nil]; decide, fun kk hk _ => hk, Nat.zero_le _⟩
  | d :: l, h, j => by
    have hd := h d (List.mem_cons_self ..)
    by_cases hj : j < (sealL d).length
    · refine ⟨0, (sealL d).take j, Nat.zero_le _, ?_, (fun x hx => sealL_by hd.1 x (List.mem_of_mem_take hx)), by rw [openR_cut hd.2 hj]; decide, fun kk hk hl => ?_, Nat.zero_le _⟩
      · show (sealL d ++ (l.map sealL).flatten).take j = _
        rw [List.take_append_of_le_length (Nat.le_of_lt hj)]
        rfl
      · match kk with
        | 0 => exact Nat.le_refl _
        | kk + 1 =>
          have e : (((d :: l).take (kk + 1)).map sealL).flatten = sealL d ++ ((l.take kk).map sealL).flatten := rfl
          rw [e, List.length_append] at hl
          omega
    · obtain ⟨i, rest, h1, h2, h3, h4, h5, h6⟩ := seals_take l (fun x hx => h x (List.mem_cons_of_mem _ hx)) (j - (sealL d).length)
      refine ⟨i + 1, rest, by rw [List.length_cons]; omega, ?_, h3, h4, fun kk hk hl => ?_, ?_⟩
      · show (sealL d ++ (l.map sealL).flatten).take j = (sealL d ++ ((l.take i).map sealL).flatten) ++ rest
        rw [List.take_append, List.take_of_length_le (by omega), h2, List.append_assoc]
      · match kk with
        | 0 => exact Nat.zero_le _
        | kk + 1 =>
          have e : (((d :: l).take (kk + 1)).map sealL).flatten = sealL d ++ ((l.take kk).map sealL).flatten := rfl
          rw [e, List.length_append] at hl
          rw [List.length_cons] at hk
          have := h5 kk (by omega) (by omega)
          omega
      · have e : (((d :: l).take (i + 1)).map sealL).flatten = sealL d ++ ((l.take i).map sealL).flatten := rfl
        rw [e, List.length_append]
        omega

/-- The first bytes of a reel's file. -/
theorem ldR_take {gen ns : Nat} {base : List Int} {recs : List (List Int)} (h1 : 1 ≤ gen) (h2 : gen ≤ 1099511627776) (hm : ns ≤ 1000000) (hb : base.length ≤ 8176 ∧ By base) (hr : ∀ d ∈ recs, By d ∧ d.length ≤ 8192) (j : Nat) :
    (ldR ((fileR gen ns base recs).take j) = (.z0, false) ∧ (∀ kk, ns ≤ kk → kk ≤ recs.length → ¬ (fileR gen ns base (recs.take kk)).length ≤ j)) ∨ ∃ i wh, ns ≤ i ∧ i ≤ recs.length ∧ ldR ((fileR gen ns base recs).take j) = (⟨(gen : Int), base, recs.take i⟩, wh) ∧ (∀ kk, kk ≤ recs.length → (fileR gen ns base (recs.take kk)).length ≤ j → kk ≤ i) ∧ (fileR gen ns base (recs.take i)).length ≤ j := by
  obtain ⟨hh1, hh2⟩ := hdR_ok h2 hm hb
  have hall : ∀ d ∈ hdR gen ns base :: recs, By d ∧ d.length ≤ 8192 := fun d hd => by
    rcases List.mem_cons.1 hd with rfl | hd
    · exact ⟨hh1, hh2⟩
    · exact hr d hd
  obtain ⟨i, rest, k1, k2, k3, k4, k5, k6⟩ := seals_take (hdR gen ns base :: recs) hall j
  have e : ((hdR gen ns base :: recs).map sealL).flatten = fileR gen ns base recs := by unfold fileR; simp
  have ek : ∀ kk, (((hdR gen ns base :: recs).take (kk + 1)).map sealL).flatten = fileR gen ns base (recs.take kk) := fun kk => by unfold fileR; simp
  rw [e] at k2
  have hA : allR ((fileR gen ns base recs).take j) = ((hdR gen ns base :: recs).take i, ((((hdR gen ns base :: recs).take i).map sealL).flatten).length) := by
    rw [k2]
    exact allR_seals _ rest (fun d hd => hall d (List.mem_of_mem_take hd)) k3 k4
  rw [List.length_cons] at k1
  match i with
  | 0 =>
    left
    refine ⟨?_, fun kk _ hk hl => ?_⟩
    · unfold ldR
      rw [hA]
      exact if_pos rfl
    · have := k5 (kk + 1) (by rw [List.length_cons]; omega) (by rw [ek]; exact hl)
      omega
  | i + 1 =>
    have e0 : ((hdR gen ns base :: recs).take (i + 1)).getD 0 [] = hdR gen ns base := rfl
    have el : ((hdR gen ns base :: recs).take (i + 1)).length = i + 1 := by rw [List.length_take, List.length_cons]; omega
    have ed : ((hdR gen ns base :: recs).take (i + 1)).drop 1 = recs.take i := rfl
    have hL : ldR ((fileR gen ns base recs).take j) = if ns ≤ i then (⟨(gen : Int), base, recs.take i⟩, decide (((((hdR gen ns base :: recs).take (i + 1)).map sealL).flatten).length = ((fileR gen ns base recs).take j).length)) else (.z0, false) := by
      unfold ldR
      rw [hA]
      dsimp only
      rw [if_neg (by intro e1; rw [e1] at el; cases el), e0, el, ed]
      have w1 : wL 1 (hdR gen ns base, 0) = ((gen : Int), (putL ns ++ (putL base.length ++ base), 0)) := by unfold hdR; exact wL_put h1 h2 _
      rw [w1]
      dsimp only
      rw [wL_put (Nat.zero_le _) (by omega)]
      dsimp only
      rw [bR_put hb.1]
      by_cases hn : ns ≤ i
      · rw [if_pos hn, if_pos ⟨rfl, by omega⟩]
      · rw [if_neg hn, if_neg (fun h => by have := h.2; omega)]
    by_cases hn : ns ≤ i
    · right
      refine ⟨i, _, hn, by omega, by rw [hL, if_pos hn], fun kk hk hl => ?_, by rw [← ek]; exact k6⟩
      have := k5 (kk + 1) (by rw [List.length_cons]; omega) (by rw [ek]; exact hl)
      omega
    · left
      refine ⟨by rw [hL, if_neg hn], fun kk hk1 hk hl => ?_⟩
      have := k5 (kk + 1) (by rw [List.length_cons]; omega) (by rw [ek]; exact hl)
      omega

/-- Whatever is left of a file has its generation, or none. -/
theorem ldR_low {gen ns : Nat} {base : List Int} {recs : List (List Int)} (h1 : 1 ≤ gen) (h2 : gen ≤ 1099511627776) (hm : ns ≤ 1000000) (hb : base.length ≤ 8176 ∧ By base) (hr : ∀ d ∈ recs, By d ∧ d.length ≤ 8192) (j : Nat) : (ldR ((fileR gen ns base recs).take j)).1.gen ≤ gen := by
  rcases ldR_take h1 h2 hm hb hr j with ⟨e, _⟩ | ⟨i, wh, _, _, e, _, _⟩
  · rw [e]
    show PR.z0.gen ≤ _
    have : PR.z0.gen = 0 := rfl
    omega
  · rw [e]
    exact Int.le_refl _

/-- The reel that counts. -/
theorem cnt_of {m : PD} {f : Nat} {r : PR} {wh : Bool} (hf : f ≤ 1) (hl : ldR (m.f f).told = (r, wh)) (hg : 0 < r.gen) (ho : (ldR (m.f (1 - f)).told).1.gen < r.gen) : cnt m = (f, r, wh) := by
  have hz : PR.z0.gen = 0 := rfl
  unfold M.cnt
  rcases Nat.lt_or_ge f 1 with hf0 | hf1
  · obtain rfl : f = 0 := by omega
    have s1 : scT (fun i => (m.f i).told) 1 = (0, r, wh) := by
      rw [scT]
      show (if (PR.z0).gen < (ldR (m.f 0).told).1.gen then (0, (ldR (m.f 0).told).1, (ldR (m.f 0).told).2) else _) = _
      rw [hl, if_pos (by rw [hz]; exact hg)]
    rw [scT, s1]
    dsimp only
    rw [if_neg (by show ¬ r.gen < (ldR (m.f 1).told).1.gen; have : (ldR (m.f 1).told).1.gen < r.gen := ho; omega)]
  · obtain rfl : f = 1 := by omega
    have ho' : (ldR (m.f 0).told).1.gen < r.gen := ho
    rw [scT, hl, if_pos]
    show (scT (fun i => (m.f i).told) 1).2.1.gen < r.gen
    rw [scT]
    show (if (PR.z0).gen < (ldR (m.f 0).told).1.gen then (0, (ldR (m.f 0).told).1, (ldR (m.f 0).told).2) else (1, PR.z0, false)).2.1.gen < r.gen
    split
    · exact ho'
    · show PR.z0.gen < _
      rw [hz]
      exact hg

/-- What is opened has this base, and the first records of R, at least lo of them. -/
structure Got (m : PD) (base : List Int) (R : List (List Int)) (lo : Nat) : Prop where
  ok : m.ok 100000
  cal : Cal m
  bys : ∀ i, i < 2 → By (m.f i).told
  cf : (cnt m).1 ≤ 1
  fit : (cnt m).2.1.fit
  few : (cnt m).2.1.recs.length ≤ 1000000
  code : (opM m).1 = 0
  base : (opM m).2.2.r.base = base
  recs : ∃ i, lo ≤ i ∧ i ≤ R.length ∧ (opM m).2.2.r.recs = R.take i
  keep : (opM m).2.1.keep = []
  fresh : (opM m).2.2.r.fit ∧ (opM m).2.2.r.recs.length ≤ 1000000

/-- A disk that was switched on once more. -/
structure On (m : PD) : Prop where
  room : m.room = 2097152
  cal : Cal m
  keep : m.keep = []
  lens : ∀ i, i < 2 → (m.f i).told.length ≤ 100000 ∧ (m.f i).lasts.length ≤ 100000
  rest : ∀ i, 2 ≤ i → i < 8 → (m.f i).told = [] ∧ (m.f i).lasts = []
  bys : ∀ i, i < 2 → By (m.f i).told

theorem On.ok {m : PD} (h : On m) : m.ok 100000 :=
  ⟨by rw [h.room]; decide, by rw [h.room]; decide, fun i hi => by
    rcases Nat.lt_or_ge i 2 with h2 | h2
    · exact (h.lens i h2).1
    · rw [(h.rest i h2 hi).1]; exact Nat.zero_le _, fun i hi => by
    rcases Nat.lt_or_ge i 2 with h2 | h2
    · exact (h.lens i h2).2
    · rw [(h.rest i h2 hi).2]; exact Nat.zero_le _, by rw [h.keep]; exact Nat.zero_le _, by rw [h.cal.left]; exact Nat.zero_le _⟩

theorem On.got {m : PD} (h : On m) {f : Nat} (hf : f ≤ 1) {r : PR} {wh : Bool} (hl : ldR (m.f f).told = (r, wh)) (hg : 0 < r.gen ∧ r.gen ≤ 1000000) (ho : (ldR (m.f (1 - f)).told).1.gen < r.gen) {R : List (List Int)} {i lo : Nat} (h1 : lo ≤ i) (h2 : i ≤ R.length) (h3 : r.recs = R.take i) : Got m r.base R lo := by
  have hC := cnt_of hf hl hg.1 ho
  have hfit0 := cnt_fit h.bys
  obtain ⟨hf1, hfit, hg40, hn5⟩ := hfit0
  have hn := hn5 100000 (fun i hi => (h.lens i hi).1)
  have hfl := (cnt_ge h.bys).2 100000 (fun i hi => (h.lens i hi).1)
  have base : (opM m).1 = 0 ∧ (opM m).2.2.r.base = r.base ∧ (opM m).2.2.r.recs = r.recs ∧ (opM m).2.1.keep = [] ∧ 0 ≤ (opM m).2.2.r.gen := by
    unfold opM
    rw [hC] at hfit hn hfl ⊢
    dsimp only at hfit hn hfl ⊢
    by_cases hw : wh = true
    · rw [if_pos hw]
      exact ⟨rfl, rfl, rfl, h.keep, Int.le_of_lt hg.1⟩
    · rw [if_neg hw]
      have hfb := fitsR_of hfit.base.1 (fun i hi => (hfit.recs i hi).2)
      unfold svT
      dsimp only
      rw [if_neg (by omega), if_neg (by rw [hfb]; decide)]
      have hs : (sealR ⟨r.gen + 1, r.base, r.recs⟩).length ≤ 8206 + 100000 := by
        unfold sealR
        rw [List.length_append, headR_hd]
        have h1 := sealL_len_le (hdR_ok (gen := (r.gen + 1).toNat) (ns := r.recs.length) (base := r.base) (by omega) (by omega) hfit.base).2
        show (sealL (hdR (r.gen + 1).toNat r.recs.length r.base)).length + ((r.recs.map sealL).flatten).length ≤ _
        omega
      rcases h.cal.write (1 - f) (sealR ⟨r.gen + 1, r.base, r.recs⟩) with e | e
      · exfalso
        have h1 : (wrM m (1 - f) (sealR ⟨r.gen + 1, r.base, r.recs⟩)).2 = 7 := by rw [e]
        unfold wrM at h1
        rw [if_neg (by rw [h.cal.gone]; decide), if_neg] at h1
        · have hcc : Cal (m.clearAt (1 - f)) := by rw [h.cal.clear]; exact h.cal.f _
          rw [if_neg (by rw [hcc.gone]; decide)] at h1
          have h2 : goneE (((m.clearAt (1 - f)).putAt (1 - f) (sealR ⟨r.gen + 1, r.base, r.recs⟩)).gone 1) = 7 := h1
          unfold goneE at h2
          split at h2
          · exact absurd h2 (by decide)
          · exact absurd h2 (by decide)
        · rw [h.cal.clear]
          have hu : ({ m with f := upP m.f (1 - f) ⟨[], (m.f (1 - f)).lasts, true⟩ } : PD).used ≤ 2 * 100000 := by
            refine used_two (fun i hi => ?_) (fun i h2 h8 => ?_)
            · show (upP m.f (1 - f) _ i).told.length ≤ _
              by_cases e2 : i = 1 - f
              · rw [e2, upP_same]; exact Nat.zero_le _
              · rw [up_other e2]; exact (h.lens i hi).1
            · show (upP m.f (1 - f) _ i).told.length = 0
              rw [up_other (by omega), (h.rest i h2 h8).1]
              rfl
          have := h.room
          omega
      · rw [e]
        dsimp only
        rw [if_pos rfl]
        exact ⟨rfl, rfl, rfl, h.keep, by show 0 ≤ r.gen + 1; omega⟩
  obtain ⟨b1, b2, b3, b4, b5⟩ := base
  have hr : r.fit := by rw [hC] at hfit; exact hfit
  have hn' : r.recs.length ≤ 1000000 := by rw [hC] at hn; dsimp only at hn; omega
  exact ⟨h.ok, h.cal, h.bys, hf1, hfit, by omega, b1, b2, ⟨i, h1, h2, b3.trans h3⟩, b4, ⟨b5, by rw [b2]; exact hr.base, by rw [b3]; exact hr.recs⟩, by rw [b3]; exact hn'⟩

end Go.Proofs.Ytpjhadaiodnnaaa.M
end

section
namespace Go.Proofs.Ytpjhadaiodnnaaa.M
open Go.ChangeShapes Go.WideShapes Go.ChangeAt Go.RowKit
set_option linter.unusedSimpArgs false

/-- A disk that is switched on. -/
def onM (m : PD) : PD := { m with down := false }

/-- Files that are short, and none but the first two. -/
structure Fls (Y : Nat → PF) (S : Nat) : Prop where
  lens : ∀ i, i < 2 → (Y i).told.length ≤ S ∧ (Y i).lasts.length ≤ S
  rest : ∀ i, 2 ≤ i → i < 8 → (Y i).told = [] ∧ (Y i).lasts = []
  bys : ∀ i, i < 2 → By (Y i).told ∧ By (Y i).lasts

theorem Fls.up {Y : Nat → PF} {S S2 i : Nat} {x : PF} (h : Fls Y S) (hi : i < 2) (hS : S ≤ S2) (h1 : x.told.length ≤ S2 ∧ x.lasts.length ≤ S2) (h2 : By x.told ∧ By x.lasts) : Fls (upP Y i x) S2 := by
  refine ⟨fun j hj => ?_, fun j h2 h8 => ?_, fun j hj => ?_⟩
  · by_cases e : j = i
    · rw [e, upP_same]; exact h1
    · rw [up_other e]; have := h.lens j hj; omega
  · rw [up_other (by omega)]; exact h.rest j h2 h8
  · by_cases e : j = i
    · rw [e, upP_same]; exact h2
    · rw [up_other e]; exact h.bys j hj

theorem rest_cases (x : PF) (k : Int) : x.rest k = x.lasts ∨ ∃ j, x.rest k = x.told.take j ∧ x.sure ≤ j := by
  unfold PF.rest
  split
  · exact Or.inl rfl
  · exact Or.inr ⟨_, rfl, Nat.le_add_right _ _⟩

theorem on_fall {m : PD} {Y : Nat → PF} (keep : List Int) (hr : m.room = 2097152) (h : Fls Y 100000) : On (onM (({ m with f := Y } : PD).fall keep)) ∧ ∀ i, i < 8 → ((onM (({ m with f := Y } : PD).fall keep)).f i).told = (Y i).rest (keepAt keep i) := by
  have hf : ∀ i, i < 8 → (onM (({ m with f := Y } : PD).fall keep)).f i = (Y i).crash (keepAt keep i) := fun i hi => by
    show (if i < 8 then (Y i).crash (keepAt keep i) else Y i) = _
    rw [if_pos hi]
  have hrest : ∀ i k, ((Y i).rest k).length ≤ (Y i).told.length ∨ ((Y i).rest k).length ≤ (Y i).lasts.length := fun i k => by
    rcases rest_cases (Y i) k with e | ⟨j, e, _⟩
    · rw [e]; exact Or.inr (Nat.le_refl _)
    · rw [e]; exact Or.inl (List.length_take_le' _ _)
  have hlen : ∀ i, i < 2 → ∀ k, ((Y i).rest k).length ≤ 100000 := fun i hi k => by
    have := h.lens i hi
    rcases hrest i k with e | e <;> omega
  have hz : ∀ i, 2 ≤ i → i < 8 → ∀ k, (Y i).rest k = [] := fun i h2 h8 k => by
    have := h.rest i h2 h8
    refine List.length_eq_zero_iff.1 ?_
    rcases hrest i k with e | e
    · rw [this.1] at e; exact Nat.le_zero.1 e
    · rw [this.2] at e; exact Nat.le_zero.1 e
  refine ⟨⟨hr, ⟨rfl, rfl⟩, rfl, fun i hi => ?_, fun i h2 h8 => ?_, fun i hi => ?_⟩, fun i hi => by rw [hf i hi]; rfl⟩
  · rw [hf i (by omega)]
    exact ⟨hlen i hi _, hlen i hi _⟩
  · rw [hf i h8]
    exact ⟨hz i h2 h8 _, hz i h2 h8 _⟩
  · rw [hf i (by omega)]
    show By ((Y i).rest (keepAt keep i))
    rcases rest_cases (Y i) (keepAt keep i) with e | ⟨j, e, _⟩
    · rw [e]; exact (h.bys i hi).2
    · rw [e]; exact fun x hx => (h.bys i hi).1 x (List.mem_of_mem_take hx)

theorem pre_is {xs ys : List Int} (h : xs <+: ys) : xs = ys.take xs.length := by
  obtain ⟨zs, rfl⟩ := h
  rw [List.take_left]

theorem low_rest {x : PF} {g : Int} (h : (∀ j, (ldR (x.told.take j)).1.gen < g) ∧ (ldR x.lasts).1.gen < g) (k : Int) : (ldR (x.rest k)).1.gen < g := by
  rcases rest_cases x k with e | ⟨j, e, _⟩
  · rw [e]; exact h.2
  · rw [e]; exact h.1 j

/-- The power goes: the reel that is is opened, with its first records. -/
theorem got_cur {m : PD} {Y : Nat → PF} (keep : List Int) (hr : m.room = 2097152) (h : Fls Y 100000) {f gen ns kk : Nat} {base : List Int} {R : List (List Int)} (hf : f ≤ 1) (h1 : 1 ≤ gen) (h2 : gen ≤ 1000000) (hm : ns ≤ 1000000) (hb : base.length ≤ 8176 ∧ By base) (hR : ∀ d ∈ R, By d ∧ d.length ≤ 8192)
    (hcl : (Y f).cl = false) (hpre : (Y f).lasts <+: (Y f).told) (htold : (Y f).told <+: fileR gen ns base R) (hn : ns ≤ kk) (hk : kk ≤ R.length) (hlen : (fileR gen ns base (R.take kk)).length ≤ (Y f).lasts.length)
    (ho : (ldR ((Y (1 - f)).rest (keepAt keep (1 - f)))).1.gen < (gen : Int)) : Got (onM (({ m with f := Y } : PD).fall keep)) base R kk := by
  obtain ⟨hOn, hF⟩ := on_fall (m := m) keep hr h
  have hc : ∃ j, (Y f).rest (keepAt keep f) = (fileR gen ns base R).take j ∧ (Y f).lasts.length ≤ j := by
    rcases rest_cases (Y f) (keepAt keep f) with e | ⟨j, e, hj⟩
    · exact ⟨(Y f).lasts.length, by rw [e]; exact pre_is (hpre.trans htold), Nat.le_refl _⟩
    · have hs : (Y f).sure = (Y f).lasts.length := by unfold PF.sure; rw [hcl]; rfl
      refine ⟨min j (Y f).told.length, ?_, ?_⟩
      · rw [e]
        conv => lhs; rw [pre_is htold]
        rw [List.take_take]
      · have := hpre.length_le
        omega
  obtain ⟨j, hj1, hj2⟩ := hc
  have hoth : (ldR ((onM (({ m with f := Y } : PD).fall keep)).f (1 - f)).told).1.gen < (gen : Int) := by
    rw [hF (1 - f) (by omega)]
    exact ho
  rcases ldR_take h1 (by omega) hm hb hR j with ⟨_, hno⟩ | ⟨i, wh, k1, k2, k3, k4, k5⟩
  · exact absurd (Nat.le_trans hlen hj2) (hno kk hn hk)
  · have hi := k4 kk hk (Nat.le_trans hlen hj2)
    exact hOn.got (r := ⟨(gen : Int), base, R.take i⟩) hf (by rw [hF f (by omega), hj1]; exact k3) ⟨by show (0 : Int) < (gen : Int); omega, by show (gen : Int) ≤ 1000000; omega⟩ hoth hi k2 rfl

/-- The power goes: the new reel is opened. -/
theorem got_new {m : PD} {Y : Nat → PF} (keep : List Int) (hr : m.room = 2097152) (h : Fls Y 100000) {o gen : Nat} {base : List Int} {R : List (List Int)} (hf : o ≤ 1) (h1 : 1 ≤ gen) (h2 : gen ≤ 1000000) (hm : R.length ≤ 1000000) (hb : base.length ≤ 8176 ∧ By base) (hR : ∀ d ∈ R, By d ∧ d.length ≤ 8192)
    (hnew : (Y o).rest (keepAt keep o) = fileR gen R.length base R) (ho : (∀ j, (ldR ((Y (1 - o)).told.take j)).1.gen < (gen : Int)) ∧ (ldR (Y (1 - o)).lasts).1.gen < (gen : Int)) : Got (onM (({ m with f := Y } : PD).fall keep)) base R R.length := by
  obtain ⟨hOn, hF⟩ := on_fall (m := m) keep hr h
  have hoth : (ldR ((onM (({ m with f := Y } : PD).fall keep)).f (1 - o)).told).1.gen < (gen : Int) := by
    rw [hF (1 - o) (by omega)]
    rcases rest_cases (Y (1 - o)) (keepAt keep (1 - o)) with e | ⟨j, e, _⟩
    · rw [e]; exact ho.2
    · rw [e]; exact ho.1 j
  exact hOn.got (r := ⟨(gen : Int), base, R⟩) (wh := true) hf (by rw [hF o (by omega), hnew]; exact ldR_file h1 (by omega) (Nat.le_refl _) hm hb hR) ⟨by show (0 : Int) < (gen : Int); omega, by show (gen : Int) ≤ 1000000; omega⟩ hoth (Nat.le_refl _) (Nat.le_refl _) (by rw [List.take_length])

theorem act_of1 (m : PD) (n : Nat) (X : Nat → Nat → PF) (h : m.left ≠ 0) (h2 : m.left ≤ n) : m.act n X = ({ m with f := X m.left } : PD).fall m.keep := (if_neg h).trans (if_pos h2)

theorem act_keep {m : PD} {n : Nat} {X : Nat → Nat → PF} (hg : m.gone n = false) : (m.act n X).keep = m.keep ∧ (m.act n X).left ≤ m.left := by
  have hg := of_decide_eq_false hg
  unfold PD.act
  by_cases h0 : m.left = 0
  · rw [if_pos h0]; exact ⟨rfl, Nat.le_refl _⟩
  · rw [if_neg h0, if_neg (by omega)]; exact ⟨rfl, Nat.sub_le _ _⟩

theorem wrK_1 {m : PD} {i : Nat} {bs : List Int} (h : m.gone 1 = true) : wrM m i bs = (m.clearAt i, 50) := if_pos h
theorem wrK_2 {m : PD} {i : Nat} {bs : List Int} (h : m.gone 1 = false) (h2 : m.room < (m.clearAt i).used + bs.length) : wrM m i bs = (m.clearAt i, 7) := (if_neg (by rw [h]; decide)).trans (if_pos h2)
theorem wrK_3 {m : PD} {i : Nat} {bs : List Int} (h : m.gone 1 = false) (h2 : ¬ m.room < (m.clearAt i).used + bs.length) (h3 : (m.clearAt i).gone bs.length = true) : wrM m i bs = ((m.clearAt i).putAt i bs, 50) := (if_neg (by rw [h]; decide)).trans ((if_neg h2).trans (if_pos h3))
theorem wrK_4 {m : PD} {i : Nat} {bs : List Int} (h : m.gone 1 = false) (h2 : ¬ m.room < (m.clearAt i).used + bs.length) (h3 : (m.clearAt i).gone bs.length = false) : wrM m i bs = (((m.clearAt i).putAt i bs).syncAt i, goneE (((m.clearAt i).putAt i bs).gone 1)) := (if_neg (by rw [h]; decide)).trans ((if_neg h2).trans (if_neg (by rw [h3]; decide)))

/-- A tape with a fuse: kk of its records are sure. -/
structure Kp (m : PD) (t : TP) (kk S A : Nat) : Prop where
  file : t.file ≤ 1
  gen : 1 ≤ t.r.gen ∧ t.r.gen ≤ A
  base : t.r.base.length ≤ 8176 ∧ By t.r.base
  recs : ∀ d ∈ t.r.recs, By d ∧ d.length ≤ 8192
  sure : kk ≤ t.r.recs.length
  mine : ∃ ns, ns ≤ kk ∧ ns ≤ 1000000 ∧ (m.f t.file).told = fileR t.r.gen.toNat ns t.r.base t.r.recs ∧ (fileR t.r.gen.toNat ns t.r.base (t.r.recs.take kk)).length ≤ (m.f t.file).lasts.length
  cl : (m.f t.file).cl = false
  pre : (m.f t.file).lasts <+: (m.f t.file).told
  oth : (∀ j, (ldR ((m.f (1 - t.file)).told.take j)).1.gen < t.r.gen) ∧ (ldR (m.f (1 - t.file)).lasts).1.gen < t.r.gen
  room : m.room = 2097152
  up : m.down = false
  keep : m.keep.length ≤ 16384
  left : m.left ≤ 9223372036854775807
  fls : Fls m.f S

theorem Kp.ok {m : PD} {t : TP} {kk S A : Nat} (h : Kp m t kk S A) : m.ok S :=
  ⟨by rw [h.room]; decide, by rw [h.room]; decide, fun i hi => by
    rcases Nat.lt_or_ge i 2 with h2 | h2
    · exact (h.fls.lens i h2).1
    · rw [(h.fls.rest i h2 hi).1]; exact Nat.zero_le _, fun i hi => by
    rcases Nat.lt_or_ge i 2 with h2 | h2
    · exact (h.fls.lens i h2).2
    · rw [(h.fls.rest i h2 hi).2]; exact Nat.zero_le _, h.keep, h.left⟩

theorem Fls.mono {Y : Nat → PF} {S S2 : Nat} (h : Fls Y S) (hS : S ≤ S2) : Fls Y S2 := ⟨fun i hi => by have := h.lens i hi; omega, h.rest, h.bys⟩

theorem Kp.mono {m : PD} {t : TP} {kk S A S2 A2 : Nat} (h : Kp m t kk S A) (hS : S ≤ S2) (hA : A ≤ A2) : Kp m t kk S2 A2 :=
  ⟨h.file, by have := h.gen; omega, h.base, h.recs, h.sure, h.mine, h.cl, h.pre, h.oth, h.room, h.up, h.keep, h.left, h.fls.mono hS⟩

theorem gen_nat {g : Int} (h : 1 ≤ g) : ((g.toNat : Nat) : Int) = g := Int.toNat_of_nonneg (by omega)

/-- The reel that is, behind a fall of files that go on from those of a tape. -/
theorem Kp.cur {m m0 : PD} {t : TP} {kk S A : Nat} (h : Kp m t kk S A) (hA : A ≤ 1000000) (hm0 : m0.room = 2097152) {Y : Nat → PF} (hY : Fls Y 100000) (keep : List Int) {R : List (List Int)} (hR : ∀ d ∈ R, By d ∧ d.length ≤ 8192) (hpR : t.r.recs <+: R)
    (hcl : (Y t.file).cl = false) (hl : (m.f t.file).lasts <+: (Y t.file).lasts) (hpre : (Y t.file).lasts <+: (Y t.file).told) (htold : ∀ ns, (m.f t.file).told = fileR t.r.gen.toNat ns t.r.base t.r.recs → (Y t.file).told <+: fileR t.r.gen.toNat ns t.r.base R)
    (ho : (ldR ((Y (1 - t.file)).rest (keepAt keep (1 - t.file)))).1.gen < t.r.gen) : Got (onM (({ m0 with f := Y } : PD).fall keep)) t.r.base R kk := by
  obtain ⟨ns, n1, n2, n3, n4⟩ := h.mine
  have hg := h.gen
  have e : R.take kk = t.r.recs.take kk := by
    obtain ⟨zs, rfl⟩ := hpR
    rw [List.take_append_of_le_length h.sure]
  refine got_cur keep hm0 hY (gen := t.r.gen.toNat) (ns := ns) h.file (by omega) (by omega) n2 h.base hR hcl hpre (htold ns n3) n1 (Nat.le_trans h.sure hpR.length_le) ?_ ?_
  · rw [e]; exact Nat.le_trans n4 hl.length_le
  · rw [gen_nat hg.1]; exact ho

/-- A crash. -/
theorem Kp.crash {m : PD} {t : TP} {kk S A : Nat} (h : Kp m t kk S A) (hA : A ≤ 1000000) (hS : S ≤ 100000) (keep : List Int) : Got (onM (m.fall keep)) t.r.base t.r.recs kk :=
  h.cur hA h.room (m0 := m) (Y := m.f) (h.fls.mono hS) keep h.recs (List.prefix_refl _) h.cl (List.prefix_refl _) h.pre (fun ns e => by rw [e]; exact List.prefix_refl _) (low_rest h.oth _)

theorem low_le {xs ys : List Int} {g : Int} (h : ∀ j, (ldR (ys.take j)).1.gen < g) (hp : xs <+: ys) : (ldR xs).1.gen < g := by
  rw [pre_is hp]
  exact h _

theorem sealL_len14 {xs : List Int} (h : xs.length ≤ 8192) : (sealL xs).length ≤ xs.length + 14 := by
  rw [length_sealL]
  have := putL_len (m := xs.length) (by omega)
  omega

/-- Put. -/
theorem Kp.put {m : PD} {t : TP} {kk S A : Nat} {xs : List Int} (h : Kp m t kk S A) (hx : By xs) (hA : A ≤ 1000000) (hS : S + xs.length + 14 ≤ 100000) :
    ((ptT m t xs).1 = 0 ∧ Kp (ptT m t xs).2.1 (ptT m t xs).2.2 kk (S + xs.length + 14) A ∧ (ptT m t xs).2.2.r = ⟨t.r.gen, t.r.base, t.r.recs ++ [xs]⟩) ∨ ((ptT m t xs).1 = 50 ∧ Got (onM (ptT m t xs).2.1) t.r.base (t.r.recs ++ [xs]) kk) ∨ ((ptT m t xs).1 ≠ 0 ∧ (ptT m t xs).1 ≠ 50 ∧ (ptT m t xs).2.1 = m ∧ (ptT m t xs).2.2 = t) := by
  by_cases hl : 8192 < xs.length
  · have e : ptT m t xs = (4, m, t) := if_pos hl
    rw [e]
    exact Or.inr (Or.inr ⟨show (4 : Int) ≠ 0 by decide, show (4 : Int) ≠ 50 by decide, rfl, rfl⟩)
  · have e : ptT m t xs = ((ptM m t.file (sealL xs)).2, (ptM m t.file (sealL xs)).1, if (ptM m t.file (sealL xs)).2 = 0 then ⟨t.file, t.kept, ⟨t.r.gen, t.r.base, t.r.recs ++ [xs]⟩⟩ else t) := if_neg hl
    have hsl := sealL_len14 (xs := xs) (by omega)
    have hsb := sealL_by hx
    have hrec : ∀ d ∈ t.r.recs ++ [xs], By d ∧ d.length ≤ 8192 := fun d hd => by
      rcases List.mem_append.1 hd with hd | hd
      · exact h.recs d hd
      · rw [List.mem_singleton] at hd
        rw [hd]; exact ⟨hx, by omega⟩
    have hlens := h.fls.lens t.file (by have := h.file; omega)
    have hbys := h.fls.bys t.file (by have := h.file; omega)
    have hne : 1 - t.file ≠ t.file := by have := h.file; omega
    have hFl : ∀ n, Fls (upP m.f t.file { m.f t.file with told := (m.f t.file).told ++ (sealL xs).take n }) (S + xs.length + 14) := fun n => h.fls.up (by have := h.file; omega) (by omega) ⟨by
        show ((m.f t.file).told ++ (sealL xs).take n).length ≤ _
        rw [List.length_append]
        have := List.length_take_le' n (sealL xs)
        omega, by show (m.f t.file).lasts.length ≤ _; omega⟩ ⟨By.app hbys.1 (fun x hx => hsb x (List.mem_of_mem_take hx)), hbys.2⟩
    by_cases hu : m.room < m.used + (sealL xs).length
    · have e2 : ptM m t.file (sealL xs) = (m, 7) := if_pos hu
      have e3 : ptT m t xs = (7, m, t) := by rw [e, e2]; rfl
      rw [e3]
      exact Or.inr (Or.inr ⟨show (7 : Int) ≠ 0 by decide, show (7 : Int) ≠ 50 by decide, rfl, rfl⟩)
    · have e2 : ptM m t.file (sealL xs) = (m.putAt t.file (sealL xs), goneE (m.gone (sealL xs).length)) := if_neg hu
      cases hg : m.gone (sealL xs).length with
      | true =>
        have e3 : ptT m t xs = (50, m.putAt t.file (sealL xs), t) := by rw [e, e2, hg]; rfl
        rw [e3]
        refine Or.inr (Or.inl ⟨rfl, ?_⟩)
        have hg' := of_decide_eq_true hg
        show Got (onM (m.act (sealL xs).length fun n => upP m.f t.file { m.f t.file with told := (m.f t.file).told ++ (sealL xs).take n })) t.r.base (t.r.recs ++ [xs]) kk
        rw [act_of1 m _ _ (by omega) hg'.2]
        refine h.cur hA h.room (m0 := m) (Fls.mono (hFl _) hS) m.keep hrec (List.prefix_append _ _) ?_ ?_ ?_ ?_ ?_
        · rw [upP_same]; exact h.cl
        · rw [upP_same]; exact List.prefix_refl _
        · rw [upP_same]; exact h.pre.trans (List.prefix_append _ _)
        · intro ns e3
          rw [upP_same]
          show (m.f t.file).told ++ (sealL xs).take m.left <+: _
          rw [e3, ← fileR_put]
          exact ⟨(sealL xs).drop m.left, by rw [List.append_assoc, List.take_append_drop]⟩
        · rw [up_other hne]; exact low_rest h.oth _
      | false =>
        have e3 : ptT m t xs = (0, m.putAt t.file (sealL xs), ⟨t.file, t.kept, ⟨t.r.gen, t.r.base, t.r.recs ++ [xs]⟩⟩) := by rw [e, e2, hg]; rfl
        rw [e3]
        refine Or.inl ⟨rfl, ?_, rfl⟩
        have hf := act_f (m := m) (n := (sealL xs).length) (X := fun n => upP m.f t.file { m.f t.file with told := (m.f t.file).told ++ (sealL xs).take n }) hg
        have hf' : (m.putAt t.file (sealL xs)).f = upP m.f t.file { m.f t.file with told := (m.f t.file).told ++ sealL xs } := by
          show (m.act _ _).f = _
          rw [hf, List.take_length]
        have hk : (m.putAt t.file (sealL xs)).keep = m.keep ∧ (m.putAt t.file (sealL xs)).left ≤ m.left := act_keep hg
        obtain ⟨ns, n1, n2, n3, n4⟩ := h.mine
        refine ⟨h.file, h.gen, h.base, hrec, ?_, ⟨ns, n1, n2, ?_, ?_⟩, ?_, ?_, ?_, (act_room _ _ _).trans h.room, act_up h.up hg, by rw [hk.1]; exact h.keep, Nat.le_trans hk.2 h.left, ?_⟩
        · show kk ≤ (t.r.recs ++ [xs]).length
          rw [List.length_append]
          have := h.sure
          omega
        · dsimp only
          rw [hf', upP_same]
          show (m.f t.file).told ++ sealL xs = _
          rw [n3, fileR_put]
        · dsimp only
          rw [hf', upP_same, List.take_append_of_le_length h.sure]
          exact n4
        · dsimp only
          rw [hf', upP_same]
          exact h.cl
        · dsimp only
          rw [hf', upP_same]
          exact h.pre.trans (List.prefix_append _ _)
        · dsimp only
          rw [hf', up_other hne]
          exact h.oth
        · rw [hf']
          have := hFl (sealL xs).length
          rw [List.take_length] at this
          exact this

/-- Sync. -/
theorem Kp.sync {m : PD} {t : TP} {kk S A : Nat} (h : Kp m t kk S A) (hA : A ≤ 1000000) (hS : S ≤ 100000) :
    ((syT m t).1 = 0 ∧ Kp (syT m t).2.1 (syT m t).2.2 t.r.recs.length S A ∧ (syT m t).2.2.r = t.r) ∨ ((syT m t).1 = 50 ∧ Got (onM (syT m t).2.1) t.r.base t.r.recs kk) := by
  have e : syT m t = (goneE (m.gone 1), m.syncAt t.file, if goneE (m.gone 1) = 0 then ⟨t.file, t.r.recs.length, t.r⟩ else t) := rfl
  have hlens := h.fls.lens t.file (by have := h.file; omega)
  have hbys := h.fls.bys t.file (by have := h.file; omega)
  have hne : 1 - t.file ≠ t.file := by have := h.file; omega
  have hFl : Fls (upP m.f t.file ⟨(m.f t.file).told, (m.f t.file).told, false⟩) S := h.fls.up (by have := h.file; omega) (Nat.le_refl _) ⟨hlens.1, hlens.1⟩ ⟨hbys.1, hbys.1⟩
  cases hg : m.gone 1 with
  | true =>
    have e3 : syT m t = (50, m.syncAt t.file, t) := by rw [e, hg]; rfl
    rw [e3]
    refine Or.inr ⟨rfl, ?_⟩
    have hg' := of_decide_eq_true hg
    show Got (onM (m.act 1 fun _ => upP m.f t.file ⟨(m.f t.file).told, (m.f t.file).told, false⟩)) t.r.base t.r.recs kk
    rw [act_of1 m _ _ (by omega) hg'.2]
    refine h.cur hA h.room (m0 := m) (hFl.mono hS) m.keep h.recs (List.prefix_refl _) ?_ ?_ ?_ ?_ ?_
    · rw [upP_same]
    · rw [upP_same]; exact h.pre
    · rw [upP_same]; exact List.prefix_refl _
    · intro ns e3
      rw [upP_same, ← e3]
      exact List.prefix_refl _
    · rw [up_other hne]; exact low_rest h.oth _
  | false =>
    have e3 : syT m t = (0, m.syncAt t.file, ⟨t.file, t.r.recs.length, t.r⟩) := by rw [e, hg]; rfl
    rw [e3]
    refine Or.inl ⟨rfl, ?_, rfl⟩
    have hf' : (m.syncAt t.file).f = upP m.f t.file ⟨(m.f t.file).told, (m.f t.file).told, false⟩ := act_f hg
    have hk : (m.syncAt t.file).keep = m.keep ∧ (m.syncAt t.file).left ≤ m.left := act_keep hg
    obtain ⟨ns, n1, n2, n3, n4⟩ := h.mine
    refine ⟨h.file, h.gen, h.base, h.recs, Nat.le_refl _, ⟨ns, Nat.le_trans n1 h.sure, n2, ?_, ?_⟩, ?_, ?_, ?_, (act_room _ _ _).trans h.room, act_up h.up hg, by rw [hk.1]; exact h.keep, Nat.le_trans hk.2 h.left, ?_⟩
    · dsimp only
      rw [hf', upP_same]
      exact n3
    · dsimp only
      rw [hf', upP_same, List.take_length, ← n3]
      exact Nat.le_refl _
    · dsimp only
      rw [hf', upP_same]
    · dsimp only
      rw [hf', upP_same]
      exact List.prefix_refl _
    · dsimp only
      rw [hf', up_other hne]
      exact h.oth
    · rw [hf']
      exact hFl

theorem ldR_nil_low {g : Int} (h : 1 ≤ g) : ∀ j, (ldR (([] : List Int).take j)).1.gen < g := fun j => by
  rw [List.take_nil, ldR_nil]
  omega

theorem low_cleared {x : PF} {g : Int} (hx : x.told = []) (h1 : 1 ≤ g) (h2 : (ldR x.lasts).1.gen < g) : (∀ j, (ldR (x.told.take j)).1.gen < g) ∧ (ldR x.lasts).1.gen < g := by
  refine ⟨fun j => ?_, h2⟩
  rw [hx]
  exact ldR_nil_low h1 j

set_option maxHeartbeats 2000000 in
/-- Save. -/
theorem Kp.save {m : PD} {t : TP} {kk S A : Nat} {base : List Int} {recs : List (List Int)} (h : Kp m t kk S A) (hb : By base) (hr : ∀ d ∈ recs, By d) (hn : recs.length ≤ 1000000) (hA : A + 1 ≤ 1000000) {S2 : Nat} (hS : S ≤ S2) (hS2 : S2 ≤ 100000) (hsl : (sealR ⟨t.r.gen + 1, base, recs⟩).length ≤ S2) :
    ((svT m t base recs).1 = 0 ∧ Kp (svT m t base recs).2.1 (svT m t base recs).2.2 recs.length S2 (A + 1) ∧ (svT m t base recs).2.2.r = ⟨t.r.gen + 1, base, recs⟩) ∨ ((svT m t base recs).1 = 50 ∧ (Got (onM (svT m t base recs).2.1) base recs recs.length ∨ Got (onM (svT m t base recs).2.1) t.r.base t.r.recs kk)) ∨ ((svT m t base recs).1 ≠ 0 ∧ (svT m t base recs).1 ≠ 50 ∧ Kp (svT m t base recs).2.1 (svT m t base recs).2.2 kk S2 A ∧ (svT m t base recs).2.2 = t) := by
  have hg := h.gen
  have h40 : ¬ 1099511627776 ≤ t.r.gen := by omega
  by_cases hft : fitsR base.length recs = false
  · have e : svT m t base recs = (4, m, t) := (if_neg h40).trans (if_pos hft)
    rw [e]
    exact Or.inr (Or.inr ⟨show (4 : Int) ≠ 0 by decide, show (4 : Int) ≠ 50 by decide, h.mono hS (Nat.le_refl _), rfl⟩)
  · have e : svT m t base recs = ((wrM m (1 - t.file) (sealR ⟨t.r.gen + 1, base, recs⟩)).2, (wrM m (1 - t.file) (sealR ⟨t.r.gen + 1, base, recs⟩)).1, if (wrM m (1 - t.file) (sealR ⟨t.r.gen + 1, base, recs⟩)).2 = 0 then ⟨1 - t.file, recs.length, ⟨t.r.gen + 1, base, recs⟩⟩ else t) := (if_neg h40).trans (if_neg hft)
    obtain ⟨hf1, hf2⟩ := fits_yes hft
    have hrec : ∀ d ∈ recs, By d ∧ d.length ≤ 8192 := fun d hd => ⟨hr d hd, getD_all (P := fun d => d.length ≤ 8192) hf2 d hd⟩
    have hsf : sealR ⟨t.r.gen + 1, base, recs⟩ = fileR (t.r.gen + 1).toNat recs.length base recs := sealR_file _
    have hsb : By (sealR ⟨t.r.gen + 1, base, recs⟩) := by rw [hsf]; exact fileR_by hb hr
    obtain ⟨o, ho⟩ : ∃ o, o = 1 - t.file := ⟨_, rfl⟩
    have hfo : 1 - o = t.file := by have := h.file; omega
    have ho1 : o ≤ 1 := by omega
    have hne : t.file ≠ o := by have := h.file; omega
    have hoth := h.oth
    rw [← ho] at e hoth
    have hmine : (∀ j, (ldR ((m.f t.file).told.take j)).1.gen < t.r.gen + 1) ∧ (ldR (m.f t.file).lasts).1.gen < t.r.gen + 1 := by
      obtain ⟨ns, n1, n2, n3, n4⟩ := h.mine
      have key : ∀ j, (ldR ((m.f t.file).told.take j)).1.gen < t.r.gen + 1 := fun j => by
        rw [n3]
        have := ldR_low (gen := t.r.gen.toNat) (ns := ns) (by omega) (by omega) n2 h.base h.recs j
        rw [gen_nat hg.1] at this
        omega
      exact ⟨key, low_le key h.pre⟩
    have hlens := h.fls.lens o (by omega)
    have hbys := h.fls.bys o (by omega)
    have hF1 : Fls (upP m.f o ⟨[], (m.f o).lasts, true⟩) S2 := h.fls.up (by omega) hS ⟨Nat.zero_le _, by show (m.f o).lasts.length ≤ _; omega⟩ ⟨By.nil, hbys.2⟩
    have hgn : ((((t.r.gen + 1).toNat : Nat)) : Int) = t.r.gen + 1 := Int.toNat_of_nonneg (by omega)
    obtain ⟨bs, hbs⟩ : ∃ z, z = sealR ⟨t.r.gen + 1, base, recs⟩ := ⟨_, rfl⟩
    rw [← hbs] at e hsl hsf hsb
    cases hg1 : m.gone 1 with
    | true =>
      have e3 : svT m t base recs = (50, m.clearAt o, t) := by rw [e, wrK_1 hg1]; rfl
      rw [e3]
      refine Or.inr (Or.inl ⟨rfl, Or.inr ?_⟩)
      have hg' := of_decide_eq_true hg1
      show Got (onM (m.act 1 fun _ => upP m.f o ⟨[], (m.f o).lasts, true⟩)) t.r.base t.r.recs kk
      rw [act_of1 m _ _ (by omega) hg'.2]
      refine h.cur (by omega) h.room (m0 := m) (hF1.mono hS2) m.keep h.recs (List.prefix_refl _) ?_ ?_ ?_ ?_ ?_
      · rw [up_other hne]; exact h.cl
      · rw [up_other hne]; exact List.prefix_refl _
      · rw [up_other hne]; exact h.pre
      · intro ns e3
        rw [up_other hne, e3]
        exact List.prefix_refl _
      · rw [← ho, upP_same]
        exact low_rest (low_cleared rfl hg.1 (by dsimp only; exact hoth.2)) _
    | false =>
      have hc1 : (m.clearAt o).f = upP m.f o ⟨[], (m.f o).lasts, true⟩ := act_f hg1
      have hk1 : (m.clearAt o).keep = m.keep ∧ (m.clearAt o).left ≤ m.left := act_keep hg1
      have hr1 : (m.clearAt o).room = 2097152 := (act_room _ _ _).trans h.room
      have hu1 : (m.clearAt o).down = false := act_up h.up hg1
      by_cases hu : m.room < (m.clearAt o).used + bs.length
      · have e3 : svT m t base recs = (7, m.clearAt o, t) := by rw [e, wrK_2 hg1 hu]; rfl
        rw [e3]
        obtain ⟨ns, n1, n2, n3, n4⟩ := h.mine
        refine Or.inr (Or.inr ⟨show (7 : Int) ≠ 0 by decide, show (7 : Int) ≠ 50 by decide, ⟨h.file, hg, h.base, h.recs, h.sure, ⟨ns, n1, n2, ?_, ?_⟩, ?_, ?_, ?_, hr1, hu1, by rw [hk1.1]; exact h.keep, Nat.le_trans hk1.2 h.left, by rw [hc1]; exact hF1⟩, rfl⟩)
        · rw [hc1, up_other hne]; exact n3
        · rw [hc1, up_other hne]; exact n4
        · rw [hc1, up_other hne]; exact h.cl
        · rw [hc1, up_other hne]; exact h.pre
        · rw [hc1, ← ho, upP_same]
          exact low_cleared rfl hg.1 (by dsimp only; exact hoth.2)
      · have hX : ∀ n, upP (m.clearAt o).f o { (m.clearAt o).f o with told := ((m.clearAt o).f o).told ++ bs.take n } = upP m.f o ⟨bs.take n, (m.f o).lasts, true⟩ := fun n => by
          rw [hc1, upP_same]
          funext j
          by_cases ej : j = o
          · rw [ej, upP_same, upP_same]; rfl
          · rw [up_other ej, up_other ej, up_other ej]
        have hF2 : ∀ n, Fls (upP m.f o ⟨bs.take n, (m.f o).lasts, true⟩) S2 := fun n => h.fls.up (by omega) hS ⟨by
          show (bs.take n).length ≤ _
          have := List.length_take_le' n bs
          omega, by show (m.f o).lasts.length ≤ _; omega⟩ ⟨fun x hx => hsb x (List.mem_of_mem_take hx), hbys.2⟩
        cases hg2 : (m.clearAt o).gone bs.length with
        | true =>
          have e3 : svT m t base recs = (50, (m.clearAt o).putAt o bs, t) := by rw [e, wrK_3 hg1 hu hg2]; rfl
          rw [e3]
          have hg' := of_decide_eq_true hg2
          have hY : (m.clearAt o).putAt o bs = ({ (m.clearAt o) with f := upP m.f o ⟨bs.take (m.clearAt o).left, (m.f o).lasts, true⟩ } : PD).fall (m.clearAt o).keep := by
            show (m.clearAt o).act bs.length _ = _
            rw [act_of1 _ _ _ (by omega) hg'.2, hX]
          dsimp only
          rw [hY]
          refine Or.inr (Or.inl ⟨rfl, ?_⟩)
          have hcur : (ldR ((upP m.f o ⟨bs.take (m.clearAt o).left, (m.f o).lasts, true⟩ (1 - t.file)).rest (keepAt (m.clearAt o).keep (1 - t.file)))).1.gen < t.r.gen → Got (onM (({ (m.clearAt o) with f := upP m.f o ⟨bs.take (m.clearAt o).left, (m.f o).lasts, true⟩ } : PD).fall (m.clearAt o).keep)) t.r.base t.r.recs kk := fun hlow => by
            refine h.cur (by omega) hr1 (m0 := m.clearAt o) ((hF2 _).mono hS2) _ h.recs (List.prefix_refl _) ?_ ?_ ?_ ?_ hlow
            · rw [up_other hne]; exact h.cl
            · rw [up_other hne]; exact List.prefix_refl _
            · rw [up_other hne]; exact h.pre
            · intro ns e3
              rw [up_other hne, e3]
              exact List.prefix_refl _
          rw [← ho, upP_same] at hcur
          rcases rest_cases ⟨bs.take (m.clearAt o).left, (m.f o).lasts, true⟩ (keepAt (m.clearAt o).keep o) with e4 | ⟨j, e4, _⟩
          · rw [e4] at hcur
            exact Or.inr (hcur hoth.2)
          · have e5 : (⟨bs.take (m.clearAt o).left, (m.f o).lasts, true⟩ : PF).rest (keepAt (m.clearAt o).keep o) = bs.take (min j (m.clearAt o).left) := by rw [e4]; exact List.take_take
            by_cases hj : bs.length ≤ min j (m.clearAt o).left
            · left
              refine got_new (o := o) (gen := (t.r.gen + 1).toNat) (m.clearAt o).keep hr1 ((hF2 _).mono hS2) ho1 (by omega) (by omega) hn ⟨hf1, hb⟩ hrec ?_ ?_
              · rw [upP_same, e5, List.take_of_length_le hj, hsf]
              · rw [hfo, up_other hne, hgn]
                exact hmine
            · right
              apply hcur
              rw [e5, hsf]
              rcases ldR_take (gen := (t.r.gen + 1).toNat) (ns := recs.length) (base := base) (recs := recs) (by omega) (by omega) hn ⟨hf1, hb⟩ hrec (min j (m.clearAt o).left) with ⟨e6, _⟩ | ⟨i, wh, k1, k2, k3, k4, k5⟩
              · rw [e6]
                show PR.z0.gen < _
                have : PR.z0.gen = 0 := rfl
                omega
              · exfalso
                rw [List.take_of_length_le (show recs.length ≤ i from k1), ← hsf] at k5
                omega
        | false =>
          have hc2 : ((m.clearAt o).putAt o bs).f = upP m.f o ⟨bs, (m.f o).lasts, true⟩ := by
            have h1 : ((m.clearAt o).putAt o bs).f = upP (m.clearAt o).f o { (m.clearAt o).f o with told := ((m.clearAt o).f o).told ++ bs.take bs.length } := act_f hg2
            rw [h1, hX, List.take_length]
          have hk2 : ((m.clearAt o).putAt o bs).keep = (m.clearAt o).keep ∧ ((m.clearAt o).putAt o bs).left ≤ (m.clearAt o).left := act_keep hg2
          have hr2 : ((m.clearAt o).putAt o bs).room = 2097152 := (act_room _ _ _).trans hr1
          have hu2 : ((m.clearAt o).putAt o bs).down = false := act_up hu1 hg2
          have hX3 : upP ((m.clearAt o).putAt o bs).f o ⟨(((m.clearAt o).putAt o bs).f o).told, (((m.clearAt o).putAt o bs).f o).told, false⟩ = upP m.f o ⟨bs, bs, false⟩ := by
            rw [hc2, upP_same]
            funext j
            by_cases ej : j = o
            · rw [ej, upP_same, upP_same]
            · rw [up_other ej, up_other ej, up_other ej]
          have hF3 : Fls (upP m.f o ⟨bs, bs, false⟩) S2 := h.fls.up (by omega) hS ⟨hsl, hsl⟩ ⟨hsb, hsb⟩
          cases hg3 : ((m.clearAt o).putAt o bs).gone 1 with
          | true =>
            have e3 : svT m t base recs = (50, ((m.clearAt o).putAt o bs).syncAt o, t) := by rw [e, wrK_4 hg1 hu hg2, hg3]; rfl
            rw [e3]
            have hg' := of_decide_eq_true hg3
            have hY : ((m.clearAt o).putAt o bs).syncAt o = ({ ((m.clearAt o).putAt o bs) with f := upP m.f o ⟨bs, bs, false⟩ } : PD).fall ((m.clearAt o).putAt o bs).keep := by
              show ((m.clearAt o).putAt o bs).act 1 _ = _
              rw [act_of1 _ _ _ (by omega) hg'.2, hX3]
            dsimp only
            rw [hY]
            refine Or.inr (Or.inl ⟨rfl, Or.inl ?_⟩)
            refine got_new (o := o) (gen := (t.r.gen + 1).toNat) _ hr2 (hF3.mono hS2) ho1 (by omega) (by omega) hn ⟨hf1, hb⟩ hrec ?_ ?_
            · rw [upP_same, ← hsf]
              rcases rest_cases ⟨bs, bs, false⟩ (keepAt ((m.clearAt o).putAt o bs).keep o) with e4 | ⟨j, e4, hj⟩
              · rw [e4]
              · rw [e4]
                exact List.take_of_length_le hj
            · rw [hfo, up_other hne, hgn]
              exact hmine
          | false =>
            have e3 : svT m t base recs = (0, ((m.clearAt o).putAt o bs).syncAt o, ⟨o, recs.length, ⟨t.r.gen + 1, base, recs⟩⟩) := by rw [e, wrK_4 hg1 hu hg2, hg3]; rfl
            rw [e3]
            have hc3 : (((m.clearAt o).putAt o bs).syncAt o).f = upP m.f o ⟨bs, bs, false⟩ := (act_f hg3).trans hX3
            have hk3 : (((m.clearAt o).putAt o bs).syncAt o).keep = ((m.clearAt o).putAt o bs).keep ∧ (((m.clearAt o).putAt o bs).syncAt o).left ≤ ((m.clearAt o).putAt o bs).left := act_keep hg3
            refine Or.inl ⟨rfl, ⟨ho1, by show 1 ≤ t.r.gen + 1 ∧ t.r.gen + 1 ≤ ((A + 1 : Nat) : Int); omega, ⟨hf1, hb⟩, hrec, Nat.le_refl _, ⟨recs.length, Nat.le_refl _, hn, ?_, ?_⟩, ?_, ?_, ?_, (act_room _ _ _).trans hr2, act_up hu2 hg3, by rw [hk3.1, hk2.1, hk1.1]; exact h.keep, Nat.le_trans hk3.2 (Nat.le_trans hk2.2 (Nat.le_trans hk1.2 h.left)), by rw [hc3]; exact hF3⟩, rfl⟩
            · dsimp only
              rw [hc3, upP_same, ← hsf]
            · dsimp only
              rw [hc3, upP_same, List.take_length, ← hsf]
              exact Nat.le_refl _
            · dsimp only
              rw [hc3, upP_same]
            · dsimp only
              rw [hc3, upP_same]
              exact List.prefix_refl _
            · dsimp only
              rw [hc3, hfo, up_other hne]
              exact hmine

end Go.Proofs.Ytpjhadaiodnnaaa.M
end

section
namespace Go.Proofs.Ytpjhadaiodnnaaa.M
open Go.ChangeShapes Go.WideShapes Go.ChangeAt Go.RowKit
set_option linter.unusedSimpArgs false

/-- The mark of a law's own blocks. -/
def lawM : Nat := 2000

/-- All blocks from lo to hi are marked as the law's. -/
def lawO (own : Nat → Nat) (lo hi : Nat) : Nat → Nat := fun k => if lo ≤ k ∧ k < hi then lawM else own k

theorem lawO_low {own : Nat → Nat} {lo hi k : Nat} (h : k < lo) : lawO own lo hi k = own k := if_neg (by omega)
theorem lawO_in {own : Nat → Nat} {lo hi k : Nat} (h : lo ≤ k) (h2 : k < hi) : lawO own lo hi k = lawM := if_pos ⟨h, h2⟩

theorem law_mark {a i : Nat} (ha : a ≤ 100) (hi : i < 8) : lawM ≠ mark a i := by unfold lawM mark; omega

theorem DA.lawed {w w' : World} {B : Nat} {own : Nat → Nat} {a g : Nat} {d : Dk} {m : PD} (h : DA w B own a g d m) (hb : Below w.heap.size w w') : DA w' B (lawO own w.heap.size w'.heap.size) a g d m := by
  have hgl : g < w.heap.size := h.dc.lt
  refine (h.below hb).reown (fun k e => ?_) ?_ (fun x e => ?_) (fun k hk => ?_)
  · unfold lawO
    rw [if_neg]
    intro hk
    have h0 := h.fr k hk.1
    rw [h0] at e
    unfold mark at e
    omega
  · rw [lawO_low hgl]; exact h.og
  · rw [lawO_low (h.ok x e).2.2]; exact (h.ok x e).1
  · unfold lawO
    rw [if_neg (by omega)]
    exact h.fr k (Nat.le_trans hb.size hk)

theorem DS.lawed {w w' : World} {L a g : Nat} {own : Nat → Nat} {d : Dk} {m : PD} (h : DS w L a g own d m) (hb : Below w.heap.size w w') : DS w' L a g (lawO own w.heap.size w'.heap.size) d m :=
  ⟨h.da.lawed hb, Nat.le_trans h.lw hb.size, h.lg, fun k hk => by rw [lawO_low (Nat.lt_of_lt_of_le hk h.lw)]; exact h.low k hk⟩

/-- What was made since is the law's. -/
theorem TSx.law {w w' : World} {L a g gt : Nat} {own : Nat → Nat} {m : PD} {t : TP} (h : TSx w L a g gt own m t) (hb : Below w.heap.size w w') : TSx w' L a g gt (lawO own w.heap.size w'.heap.size) m t := by
  obtain ⟨d, pb, nb, cb, pr, cr, vs, Bv, h1, h2, h3, h4, h5⟩ := h
  have hO : TO w' (lawO own w.heap.size w'.heap.size) Bv g gt t pb nb cb pr cr vs := h4.ch (Ch.of_below hb (fun _ => False)) (fun _ _ _ h => h) (fun k hk e => (lawO_low hk).trans e)
  exact ⟨d, pb, nb, cb, pr, cr, vs, Bv, h1.lawed hb, hO.tb (h2.blk.below hb) ⟨(lawO_low h2.blk.lt).trans h2.fg.1, h2.fg.2⟩, h3, hO, Nat.le_trans h5 hb.size⟩

/-- What is no block of a disk, a tape or what they made: the law's blocks, too. -/
def Fg2 (own : Nat → Nat) (g k : Nat) : Prop := (own k = 0 ∨ own k = lawM) ∧ k ≠ g

/-- A disk, where only the law's blocks change. -/
theorem DS.ch2 {S : Nat → Prop} {w w' : World} {L a g : Nat} {own : Nat → Nat} {d : Dk} {m : PD} (ha : a ≤ 100) (h : DS w L a g own d m) (hc : Ch S w w') (hs : ∀ k, S k → own k = lawM) : DS w' L a g own d m := by
  refine ⟨h.da.ch hc (fun e => ?_) (fun i k hi e e2 => ?_) (fun x e e2 => ?_) (fun _ _ => rfl) (fun k hk => h.da.fr k (Nat.le_trans hc.size hk)), Nat.le_trans h.lw hc.size, h.lg, h.low⟩
  · have := hs g e; rw [h.da.og] at this; cases this
  · exact law_mark ha hi (by rw [← hs k e2, e])
  · have h1 := (h.da.ok x e).1; rw [hs _ e2] at h1; cases h1

/-- A tape and its disk, where only the law's blocks change. -/
theorem TSx.ch2 {S : Nat → Prop} {w w' : World} {L a g gt : Nat} {own : Nat → Nat} {m : PD} {t : TP} (ha : a ≤ 100) (h : TSx w L a g gt own m t) (hc : Ch S w w') (hs : ∀ k, S k → own k = lawM) : TSx w' L a g gt own m t := by
  obtain ⟨d, pb, nb, cb, pr, cr, vs, Bv, h1, h2, h3, h4, h5⟩ := h
  have hfar : ∀ k, Fre own g k → ¬ S k := fun k hf e => by have := hs k e; rw [hf.1] at this; cases this
  have hO : TO w' own Bv g gt t pb nb cb pr cr vs := h4.ch hc (fun k hf _ => hfar k hf) (fun _ _ e => e)
  exact ⟨d, pb, nb, cb, pr, cr, vs, Bv, h1.ch2 ha hc hs, hO.tb (h2.blk.ch hc (hfar gt h2.fg)) h2.fg, h3, hO, Nat.le_trans h5 hc.size⟩

theorem TSx.new2 {w : World} {L a g gt : Nat} {own : Nat → Nat} {m : PD} {t : TP} (h : TSx w L a g gt own m t) {k : Nat} (hk : w.heap.size ≤ k) : Fg2 own g k := ⟨Or.inl (h.new hk).1, (h.new hk).2⟩

theorem TSx.old2 {w : World} {L a g gt : Nat} {own : Nat → Nat} {m : PD} {t : TP} (h : TSx w L a g gt own m t) {k : Nat} (hk : k < L) : Fg2 own g k := ⟨Or.inl (h.old hk).1, (h.old hk).2⟩

theorem TSx.lawB {w : World} {L a g gt : Nat} {own : Nat → Nat} {m : PD} {t : TP} (h : TSx w L a g gt own m t) {k : Nat} (hk : own k = lawM) : Fg2 own g k := by
  obtain ⟨d, pb, nb, cb, pr, cr, vs, Bv, h1, h2, h3, h4, h5⟩ := h
  exact ⟨Or.inr hk, fun e => by rw [e, h1.da.og] at hk; cases hk⟩

theorem mine_no2 {own : Nat → Nat} {a g gt i k : Nat} (ha : a ≤ 100) (hi : i < 8) (hf : Fre own g gt) (e : k = g ∨ k = gt ∨ own k = mark a i) : ¬ Fg2 own g k := fun h => by
  rcases e with e | e | e
  · exact h.2 e
  · rw [e] at h
    have h1 := hf.1
    rcases h.1 with h2 | h2 <;> rw [h2] at h1 <;> cases h1
  · rcases h.1 with h2 | h2
    · rw [h2] at e; unfold mark at e; omega
    · rw [h2] at e; exact law_mark ha hi e

/-- Put of a tape. -/
theorem Put_S2 (w0 w : World) (L a g gt : Nat) (own : Nat → Nat) (m : PD) (t : TP) (s : Nat) (ha : a ≤ 100) (hT : TSx w0 L a g gt own m t) (hbw : Below w0.heap.size w0 w) (hm : Fit m s) (hs : s ≤ 274877906944) (hfile : t.file ≤ 1) (hcount : t.r.recs.length < 1000000)
    (pa : Option Addr) (na ca : Nat) (xs : List Int) (hpa : Rd .u8 w pa na ca xs) (hby : By xs) (hda : ∀ x, pa = some x → 0 < na → Fg2 own g x.block) :
    Calls Try.prog 23 #[.pointer (some ⟨gt, 0, none⟩), .slice pa na ca] w fun e w' => e = .returned (.int .i64 (ptT m t xs).1) ∧ ∃ own2, TSx w' L a g gt own2 (ptT m t xs).2.1 (ptT m t xs).2.2 ∧ (∀ k, k < w.heap.size → own2 k = own k) ∧ Ch (fun k => ¬ Fg2 own g k) w w' := by
  have hl := hpa.len
  have hT1 := hT.below hbw
  by_cases hna : 8192 < na
  · have e1 : ptT m t xs = (4, m, t) := by unfold ptT; rw [if_pos (by omega)]
    rw [e1]
    refine (TPut_long w gt g hT1.o.blk.1 pa na ca hna).mono ?_
    rintro e w' ⟨rfl, hb⟩
    exact ⟨rfl, own, hT1.below hb, fun _ _ => rfl, Ch.of_below hb _⟩
  · have e1 : ptT m t xs = ((ptM m t.file (sealL xs)).2, (ptM m t.file (sealL xs)).1, if (ptM m t.file (sealL xs)).2 = 0 then ⟨t.file, t.kept, ⟨t.r.gen, t.r.base, t.r.recs ++ [xs]⟩⟩ else t) := by unfold ptT; rw [if_neg (by omega)]
    rw [e1]
    obtain ⟨d, pb, nb, cb, pr, cr, vs, Bv, hD0, hB0, hgt, hO0, hBv0⟩ := hT
    have hD := hD0.below hbw
    have hgl : g < w0.heap.size := hD0.da.dc.lt
    refine (TPut_any w L own a g d m ha hD.da s hm hs hD.lw gt t pb nb cb pr cr vs (hB0.below hbw) hfile Bv (Nat.le_trans hBv0 hbw.size) (hO0.below hbw) hcount pa na ca xs hpa hby (by omega) (fun x e h0 => ?_)).mono ?_
    · have h1 := hda x e h0
      refine ⟨fun e2 => ?_, h1.2⟩
      rcases h1.1 with h2 | h2
      · rw [h2] at e2; unfold mark at e2; omega
      · rw [h2] at e2; exact law_mark ha (by omega) e2
    · rintro e w' ⟨rfl, own2, d2, h1, h4, h5, hh⟩
      have hBel : Ch (fun k => ¬ Fg2 own g k) w w' := h5.mono fun k hk e => by
        rcases e with e | e | e | ⟨x, e, hc, ex⟩
        · exact mine_no2 (i := 0) (a := 0) (by decide) (by decide) hB0.fg (Or.inl e)
        · exact mine_no2 (i := 0) (a := 0) (by decide) (by decide) hB0.fg (Or.inr (Or.inl e))
        · exact mine_no2 ha (show t.file < 8 by omega) hB0.fg (Or.inr (Or.inr e))
        · have h6 := (hO0.fv x e hc).1.1
          rw [← ex] at h6
          intro h7
          rcases h7.1 with h8 | h8 <;> rw [h8] at h6 <;> cases h6
      have hBv : Bv ≤ w'.heap.size := Nat.le_trans (Nat.le_trans hBv0 hbw.size) h5.size
      rcases hh with ⟨hz, pr2, cr2, q, c, h2, h3⟩ | ⟨hz, h2, h3⟩
      · rw [if_pos hz]
        exact ⟨rfl, own2, ⟨d2, pb, nb, cb, pr2, cr2, vs ++ [.slice q na c], Bv, hD.mv h1 h5.size h4, h2, hgt, h3, hBv⟩, h4, hBel⟩
      · rw [if_neg hz]
        exact ⟨rfl, own2, ⟨d2, pb, nb, cb, pr, cr, vs, Bv, hD.mv h1 h5.size h4, h2, hgt, h3, hBv⟩, h4, hBel⟩

/-- Sync of a tape. -/
theorem Sync_S2 (w : World) (L a g gt : Nat) (own : Nat → Nat) (m : PD) (t : TP) (s : Nat) (ha : a ≤ 100) (hT : TSx w L a g gt own m t) (hm : Fit m s) (hs : s ≤ 274877906944) (hfile : t.file ≤ 1) :
    Calls Try.prog 20 #[.pointer (some ⟨gt, 0, none⟩)] w fun e w' => e = .returned (.int .i64 (syT m t).1) ∧ ∃ own2, TSx w' L a g gt own2 (syT m t).2.1 (syT m t).2.2 ∧ (∀ k, k < w.heap.size → own2 k = own k) ∧ Ch (fun k => ¬ Fg2 own g k) w w' := by
  obtain ⟨d, pb, nb, cb, pr, cr, vs, Bv, hD, hB, hgt, hO, hBv⟩ := hT
  refine (TSync_any w L own a g d m ha hD.da s hm hs gt t pb nb cb pr cr vs hB hfile).mono ?_
  rintro e w' ⟨rfl, own2, d2, h1, h3, h4, hh⟩
  have hO2 : TO w' own2 Bv g gt t pb nb cb pr cr vs := hO.ch h4 (fun k hf hn e => by
    rcases e with e | e | e
    · exact hf.2 e
    · exact hn e
    · exact far_mark ha (show t.file < 8 by omega) (by rw [← e, hf.1])) (fun k hk e => (h3 k hk).trans e)
  have hBel : Ch (fun k => ¬ Fg2 own g k) w w' := h4.mono fun k _ e => mine_no2 ha (show t.file < 8 by omega) hB.fg e
  unfold syT
  rcases hh with ⟨hz, h2⟩ | ⟨hz, h2⟩
  · rw [if_pos hz]
    exact ⟨rfl, own2, ⟨d2, pb, nb, cb, pr, cr, vs, Bv, hD.mv h1 h4.size h3, h2, hgt, ⟨hO2.bas, hO2.fb, hO2.rcs, hO2.fv, hO2.sls, hO2.fs⟩, Nat.le_trans hBv h4.size⟩, h3, hBel⟩
  · rw [if_neg hz]
    exact ⟨rfl, own2, ⟨d2, pb, nb, cb, pr, cr, vs, Bv, hD.mv h1 h4.size h3, h2, hgt, hO2, Nat.le_trans hBv h4.size⟩, h3, hBel⟩

/-- Save of a tape. -/
theorem Save_T2 (w : World) (L a g gt : Nat) (own : Nat → Nat) (m : PD) (t : TP) (s : Nat) (ha : a ≤ 100) (hT : TSx w L a g gt own m t) (hm : Fit m s) (hs : s ≤ 274877906944) (hfile : t.file ≤ 1) (hgen : 0 ≤ t.r.gen)
    (pa : Option Addr) (na ca : Nat) (base : List Int) (hpa : Rd .u8 w pa na ca base) (hby : By base) (pl : Option Addr) (nl cl : Nat) (us : List Value) (recs : List (List Int)) (hpl : RdV w pl nl cl us) (hus : Sls w us recs) (hnl : nl = recs.length) (hfew : nl ≤ 1000000) (hrec : ∀ i, i < recs.length → By (recs.getD i [])) :
    Calls Try.prog 21 #[.pointer (some ⟨gt, 0, none⟩), .slice pa na ca, .slice pl nl cl] w fun e w' => e = .returned (.int .i64 (svT m t base recs).1) ∧ ∃ own2, TSx w' L a g gt own2 (svT m t base recs).2.1 (svT m t base recs).2.2 ∧ (∀ k, k < w.heap.size → own2 k = own k) ∧ Ch (fun k => ¬ Fg2 own g k) w w' := by
  have hl := hpa.len
  by_cases h40 : 1099511627776 ≤ t.r.gen
  · have e1 : svT m t base recs = (5, m, t) := by unfold svT; rw [if_pos h40]
    rw [e1]
    refine (Save_range w gt g t.r.gen hT.o.blk.1 hT.o.blk.2 h40 pa na ca pl nl cl).mono ?_
    rintro e w' ⟨rfl, rfl⟩
    exact ⟨rfl, own, hT, fun _ _ => rfl, Ch.refl _ _⟩
  · by_cases hfit : fitsR base.length recs = false
    · have e1 : svT m t base recs = (4, m, t) := by unfold svT; rw [if_neg h40, if_pos hfit]
      rw [e1]
      refine (Save_long w gt g t.r.gen hT.o.blk.1 hT.o.blk.2 (by omega) pa na ca pl nl cl us recs hpl hus hnl hfew (by rw [← hl]; exact hfit)).mono ?_
      rintro e w' ⟨rfl, hb⟩
      exact ⟨rfl, own, hT.below hb, fun _ _ => rfl, Ch.of_below hb _⟩
    · have e1 : svT m t base recs = ((wrM m (1 - t.file) (sealR ⟨t.r.gen + 1, base, recs⟩)).2, (wrM m (1 - t.file) (sealR ⟨t.r.gen + 1, base, recs⟩)).1, if (wrM m (1 - t.file) (sealR ⟨t.r.gen + 1, base, recs⟩)).2 = 0 then ⟨1 - t.file, recs.length, ⟨t.r.gen + 1, base, recs⟩⟩ else t) := by unfold svT; rw [if_neg h40, if_neg hfit]
      rw [e1]
      obtain ⟨hf1, hf2⟩ := fits_yes hfit
      obtain ⟨d, pb, nb, cb, pr, cr, vs, Bv, hD, hB, hgt, hO, hBv⟩ := hT
      refine (Save_any w L own a g d m ha hD.da s hm hs hD.lw gt t pb nb cb pr cr vs hB hfile ⟨hgen, by omega⟩ pa na ca base hpa hby (by omega) pl nl cl us recs hpl hus hnl hfew (fun i hi => ⟨hrec i hi, hf2 i hi⟩)).mono ?_
      rintro e w' ⟨rfl, own2, d2, h1, h3, h4, hh⟩
      have hBel : Ch (fun k => ¬ Fg2 own g k) w w' := h4.mono fun k _ e => mine_no2 ha (show 1 - t.file < 8 by omega) hB.fg e
      rcases hh with ⟨hz, qb, mb, db, qr, dr, us2, h2, h5⟩ | ⟨hz, h2⟩
      · rw [if_pos hz, ← hnl]
        exact ⟨rfl, own2, ⟨d2, qb, mb, db, qr, dr, us2, w.heap.size, hD.mv h1 h4.size h3, h2, hgt, h5, h4.size⟩, h3, hBel⟩
      · rw [if_neg hz]
        have hO2 : TO w' own2 Bv g gt t pb nb cb pr cr vs := hO.ch h4 (fun k hf hn e => by
          rcases e with e | e | e
          · exact hf.2 e
          · exact hn e
          · exact far_mark ha (show 1 - t.file < 8 by omega) (by rw [← e, hf.1])) (fun k hk e => (h3 k hk).trans e)
        exact ⟨rfl, own2, ⟨d2, pb, nb, cb, pr, cr, vs, Bv, hD.mv h1 h4.size h3, h2, hgt, hO2, Nat.le_trans hBv h4.size⟩, h3, hBel⟩

/-- Open of a tape. -/
theorem Open_S2 (w : World) (L a g : Nat) (own : Nat → Nat) (m : PD) (s : Nat) (ha : a ≤ 100) (hD : ∃ d, DS w L a g own d m) (hm : Fit m s) (hs : s ≤ 274877906944) (hBy : ∀ i, i < 2 → By (m.f i).told) (hf : (cnt m).1 ≤ 1) (hr : (cnt m).2.1.fit) (hfew : (cnt m).2.1.recs.length ≤ 1000000) :
    Calls Try.prog 13 #[.pointer (some ⟨g, 0, none⟩)] w fun e w' => ∃ gt, e = .returned (.tuple #[opT (opM m).1 gt, .int .i64 (opM m).1]) ∧ ∃ own2, TSx w' L a g gt own2 (opM m).2.1 (opM m).2.2 ∧ (∀ k, k < w.heap.size → own2 k = own k) ∧ Ch (fun k => ¬ Fg2 own g k) w w' := by
  obtain ⟨d, hS⟩ := hD
  have hgl : g < w.heap.size := hS.da.dc.lt
  have hX : ∀ w1 gt pb nb cb pr cr vs, OI w w1 g gt (cnt m).1 (cnt m).2.1.recs.length (cnt m).2.1 pb nb cb pr cr vs → TSx w1 L a g gt (farO own w.heap.size w1.heap.size) m ⟨(cnt m).1, (cnt m).2.1.recs.length, (cnt m).2.1⟩ := fun w1 gt pb nb cb pr cr vs hI =>
    ⟨d, pb, nb, cb, pr, cr, vs, w.heap.size, hS.marked hI.hb, hI.tb hgl, by have := hI.ge; have := hS.lw; omega, hI.to hgl, hI.hb.size⟩
  have hfw : m.few := hm.ok.few (by omega)
  refine (TOpen_gen w g (fun i => (m.f i).told) (fun wr hb i hi => Read_O wr L own a g d m (hS.da.below hb) hm.ok.r0 hm.up hfw i (by omega)) hBy (fun i hi => Nat.le_trans (hfw.told i (by omega)) (by decide)) (fun c gt w' => c = (svT m ⟨(cnt m).1, (cnt m).2.1.recs.length, (cnt m).2.1⟩ (cnt m).2.1.base (cnt m).2.1.recs).1 ∧ ∃ own2, TSx w' L a g gt own2 (svT m ⟨(cnt m).1, (cnt m).2.1.recs.length, (cnt m).2.1⟩ (cnt m).2.1.base (cnt m).2.1.recs).2.1 (svT m ⟨(cnt m).1, (cnt m).2.1.recs.length, (cnt m).2.1⟩ (cnt m).2.1.base (cnt m).2.1.recs).2.2 ∧ (∀ k, k < w.heap.size → own2 k = own k) ∧ Ch (fun k => ¬ Fg2 own g k) w w') (fun c gt W W' h hb => ⟨h.1, by
      obtain ⟨own2, h1, h2, h3⟩ := h.2
      exact ⟨own2, h1.below hb, h2, h3.trans (Ch.of_below hb _)⟩⟩) ?_).mono ?_
  · intro hb w1 gt pb nb cb pr cr vs hI
    refine (Save_T2 w1 L a g gt _ m ⟨(cnt m).1, (cnt m).2.1.recs.length, (cnt m).2.1⟩ s ha (hX _ _ _ _ _ _ _ _ hI) hm hs hf hr.gen pb nb cb _ hI.bas.rd hr.base.2 pr _ cr vs _ hI.rcs.rd hI.sls.sls rfl hfew (fun i hi => (hr.recs i hi).1)).mono ?_
    rintro e w' ⟨rfl, own2, h1, h2, h3⟩
    refine ⟨_, rfl, rfl, own2, h1, fun k hk => (h2 k (Nat.lt_of_lt_of_le hk hI.hb.size)).trans (farO_low hk), (Ch.of_below hI.hb (fun k => ¬ Fg2 own g k)).then h3 (fun k hk e => fun h4 => e ⟨h4.1.imp (fun h => (farO_low hk).trans h) (fun h => (farO_low hk).trans h), h4.2⟩)⟩
  · rintro e w' (⟨hb, gt, pb, nb, cb, pr, cr, vs, rfl, hI⟩ | ⟨hb, c, gt, rfl, rfl, own2, h1, h2, h3⟩)
    · have e1 : opM m = (0, m, ⟨(cnt m).1, (cnt m).2.1.recs.length, (cnt m).2.1⟩) := by unfold opM; rw [if_pos (show (cnt m).2.2 = true from hb)]
      rw [e1]
      exact ⟨gt, rfl, _, hX _ _ _ _ _ _ _ _ hI, fun k hk => farO_low hk, Ch.of_below hI.hb _⟩
    · have e1 : opM m = svT m ⟨(cnt m).1, (cnt m).2.1.recs.length, (cnt m).2.1⟩ (cnt m).2.1.base (cnt m).2.1.recs := by unfold opM; rw [if_neg (show ¬ (cnt m).2.2 = true by have : (cnt m).2.2 = false := hb; rw [this]; decide)]
      rw [e1]
      exact ⟨gt, rfl, own2, h1, h2, h3⟩

theorem Fg2.to {own own2 : Nat → Nat} {g k n : Nat} (h : Fg2 own g k) (hk : k < n) (ho : ∀ k, k < n → own2 k = own k) : Fg2 own2 g k := ⟨by rw [ho k hk]; exact h.1, h.2⟩

theorem Ch.lowB2 {w w' : World} {L a g gt : Nat} {own : Nat → Nat} {m : PD} {t : TP} (h : Ch (fun k => ¬ Fg2 own g k) w w') (hT : TSx w L a g gt own m t) : Below L w w' := h.lowL hT.o.lw fun _ hk e => e (hT.old2 hk)

end Go.Proofs.Ytpjhadaiodnnaaa.M
end

section
namespace Go.Proofs.Ytpjhadaiodnnaaa.M
open Go.ChangeShapes Go.WideShapes Go.ChangeAt Go.RowKit
set_option linter.unusedSimpArgs false

section
variable {P : Program} (w : World)

/-- append(s, x...): s the call's own (or empty with no room), x whatever can be read. -/
theorem run_appW (t ty e : TypeId) (i : TypeInfo) (z : Value) (by_ : Nat) (ht : P.underlying t = some (.slice e)) (hi : P.info? e = some i) (hz : i.zero = some z) (hsize : i.size = 1) (hby : i.bytes = by_) (hzs : z.cells.size = 1)
    {B : Nat} {p q : Option Addr} {n c m d : Nat} {vs us : List Value} (ho : OwV e w B p n c vs) (hr : RdV w q m d us) (h1 : ∀ u ∈ us, u.oneCell' = true) (hb : (n + m) * by_ ≤ 140737488355328) (h63 : n + m ≤ maxLen) (hB : B ≤ w.heap.size) :
    ∃ p' c' w', (Builtin.append_ #[t, t] ty #[.slice p n c, .slice q m d]).run P w = .ok (.slice p' (n + m) c') w' ∧ OwV e w' B p' (n + m) c' (vs ++ us) ∧ Below B w w' := by
  by_cases hm : m = 0
  · subst hm
    have : us = [] := List.length_eq_zero_iff.1 hr.len
    subst this
    exact ⟨p, c, w, run_app_zero w t ty e i ht hi p q n c d ho.cap, by simpa using ho, Below.refl _ _⟩
  · have hm0 : 0 < m := Nat.pos_of_ne_zero hm
    obtain ⟨b, o, rfl, hc⟩ := hr.cells hm0
    have hn : ∀ j u, us[j]? = some u → w.cell? ((⟨b, o, none⟩ : Addr).add j) = some u := by
      intro j u hj
      have hj' : j < us.length := by
        rcases Nat.lt_or_ge j us.length with h | h
        · exact h
        · rw [List.getElem?_eq_none h] at hj; cases hj
      rw [Addr.add_lit, hc j (by rw [← hr.len]; exact hj'), List.getD_eq_getElem?_getD, hj]
      rfl
    have hl : us.length = m * 1 := by rw [hr.len, Nat.mul_one]
    have fin : ∀ v' w', w'.ownsRow B e 1 v' (n + m) (vs ++ us) → ∃ p' c', v' = .slice p' (n + m) c' ∧ OwV e w' B p' (n + m) c' (vs ++ us) := by
      intro v' w' h
      exact OwV.of_owns h (by rw [List.length_append, ho.len, hr.len]) (by omega)
    have own_case : w.ownsRow B e 1 (.slice p n c) n vs → ∃ p' c' w', (Builtin.append_ #[t, t] ty #[.slice p n c, .slice (some ⟨b, o, none⟩) m d]).run P w = .ok (.slice p' (n + m) c') w' ∧ OwV e w' B p' (n + m) c' (vs ++ us) ∧ Below B w w' := by
      intro hown
      obtain ⟨v', w', h2, h3, h4, _⟩ := run_append_own (P := P) w B t ty e i z 1 by_ ht hi hz hsize hby hzs (by decide) _ n _ hown ⟨b, o, none⟩ m d _ hl hn h1 h63 hb hB
      obtain ⟨p', c', rfl, h5⟩ := fin v' w' h3
      exact ⟨p', c', w', h2, h5, (Below.refl _ _).grown h4 hB fun g hg => (hown.lt g hg).1⟩
    rcases ho.own with ⟨rfl, rfl⟩ | hown
    · have hvs : vs = [] := List.length_eq_zero_iff.1 ho.len
      subst hvs
      cases p with
      | none => exact own_case (World.ownsRow_nil _ _ _ _)
      | some pa =>
        obtain ⟨v', w', h2, h3, h4⟩ := run_append_arg_grows (P := P) w t ty e i z 1 by_ ht hi hz hsize hby hzs (by decide) pa 0 0 [] (by simp) (by simp) ⟨b, o, none⟩ m d _ hl hn (by omega) h63 hb
        obtain ⟨p', c', rfl, h5⟩ := fin v' w' (by simpa using ownsRow_lower h3 hB)
        exact ⟨p', c', w', h2, h5, (Below.refl _ _).grown h4 hB fun g hg => by cases hg⟩
    · exact own_case hown

/-- The same as a law for the walk. -/
theorem wpList_appW {ops : Array Oper} {rest : List Oper} {o : Oper} {a : Act} {Q : Exit → Act → World → Prop} (hgd : o.guard = none) (s x : Operand) (t : TypeId)
    (hop : o.op = .call { callee := .builtin .append, args := #[s, x], argTypes := #[t, t] })
    (e : TypeId) (i : TypeInfo) (z : Value) (by_ : Nat) (ht : P.underlying t = some (.slice e)) (hi : P.info? e = some i) (hz : i.zero = some z) (hsize : i.size = 1) (hby : i.bytes = by_) (hzs : z.cells.size = 1)
    (B : Nat) (p : Option Addr) (n c : Nat) (vs : List Value) (hs : a.eval s = .slice p n c) (ho : OwV e w B p n c vs)
    (q : Option Addr) (m d : Nat) (us : List Value) (hx : a.eval x = .slice q m d) (hr : RdV w q m d us) (h1 : ∀ u ∈ us, u.oneCell' = true) (hb : (n + m) * by_ ≤ 140737488355328) (h63 : n + m ≤ maxLen) (hB : B ≤ w.heap.size)
    (h : ∀ p' c' w', OwV e w' B p' (n + m) c' (vs ++ us) → Below B w w' → wpList P ops Q rest (a.put o.dst (.slice p' (n + m) c')) w') : wpList P ops Q (o :: rest) a w := by
  refine wpList_plain hgd fun K hK => ?_
  obtain ⟨p', c', w', hrun, h2, h3⟩ := run_appW (P := P) w t o.type e i z by_ ht hi hz hsize hby hzs ho hr h1 hb h63 hB
  unfold Oper.wp
  simp [execOp, hop, resolve, invoke, builtin, hs, hx, hrun, Result.andThen]
  exact hK _ _ (h p' c' w' h2 h3)

end

theorem kstrs_one (xss : List (List Int)) : ∀ u ∈ strs xss, u.oneCell' = true := fun u hu => by
  unfold strs at hu
  obtain ⟨x, _, rfl⟩ := List.mem_map.1 hu
  rfl

theorem kstrs_len (xss : List (List Int)) : (strs xss).length = xss.length := by unfold strs; rw [List.length_map]

theorem kstrs_getD {xss : List (List Int)} {k : Nat} (h : k < xss.length) : (strs xss).getD k undef = .string (strOfNums (xss.getD k [])) := by
  unfold strs
  rw [List.getD_eq_getElem?_getD, List.getD_eq_getElem?_getD, List.getElem?_map, List.getElem?_eq_getElem h]
  rfl

theorem At.set6 {t : TypeId} {w : World} {g : Nat} {cs : Array Value} (h : At t w g cs) (i : Nat) (v : Value) : At t (w.setCell ⟨g, i, none⟩ v) g (cs.setIfInBounds i v) := heap_setCell_same w g i _ _ v h

/-- A store into a row of one's own. -/
theorem setV6 {e : TypeId} {w : World} {B n c : Nat} {p : Option Addr} {vs : List Value} (h : OwV e w B p n c vs) {i : Nat} (hi : i < n) (v : Value) : ∃ b, p = some ⟨b, 0, none⟩ ∧ B ≤ b ∧ b < w.heap.size ∧ w.cell? ⟨b, i, none⟩ = some (vs.getD i undef) ∧ w.frozen? ⟨b, i, none⟩ = false ∧ OwV e (w.setCell ⟨b, i, none⟩ v) B p n c (vs.set i v) := by
  rcases h.own with ⟨h0, _⟩ | ho
  · omega
  · rcases ho.2 with ⟨_, h0⟩ | ⟨g, cap, cur, hv, hg, hh, hc, hm, hs, ht⟩
    · omega
    · injection hv with e1 e2 e3
      subst e1 e3
      have hcl := h.rd.cells (by omega)
      obtain ⟨b, o, eb, hcl⟩ := hcl
      injection eb with eb
      injection eb with eb1 eb2 eb3
      subst eb1 eb2
      have hci := hcl i hi
      rw [Nat.zero_add] at hci
      refine ⟨g, rfl, hg, (Array.getElem?_eq_some_iff.1 hh).1, hci, frozen_of_row w g i _ _ hh, by rw [List.length_set]; exact h.len, Or.inr ⟨by rw [List.length_set]; exact ho.1, Or.inr ⟨g, c, cur.setIfInBounds i v, rfl, hg, heap_setCell_same w g i _ _ v hh, hc, hm, by rw [Array.size_setIfInBounds]; exact hs, ?_⟩⟩⟩
      rw [Array.toList_setIfInBounds, List.take_set, ht]

set_option maxRecDepth 20000 in
theorem cloneS_any (p : Option Addr) (n c : Nat) (xss : List (List Int)) (w : World) (hr : RdV w p n c (strs xss)) (hn : n ≤ 1099511627776) :
    Calls Try.prog 24 #[.slice p n c] w fun e w' => ∃ p' c', e = .returned (.slice p' n c') ∧ OwV 9 w' w.heap.size p' n c' (strs xss) ∧ Below w.heap.size w w' := by
  have q22 : ∀ (w : World) (a : Option Addr) (n c n' c' : Nat), (binOp .eql 49 (.slice a n c) (.slice none n' c')).run Try.prog w = .ok (.bool a.isNone) w := fun w a n c n' c' => Lib.run_eql_slice_nil w _ _ a n c n' c' Try.underlying49
  obtain ⟨i0, hi0, hz0, hz1, hz2⟩ := info_parts infoT
  cases p with
  | none =>
    have hn0 : n = 0 := by have := hr.cap; have := hr.nil rfl; omega
    subst hn0
    have hc0 := hr.nil rfl
    subst hc0
    have HL : Hid (strs xss = []) := List.length_eq_zero_iff.1 hr.len
    clear hr
    go_enter Try.func24, Try.ntmps24
    go_wp2_with fail
    go_ret
    exact ⟨none, 0, rfl, by rw [HL.out]; exact OwV.empty _ _ _ _, Below.refl _ _⟩
  | some ad =>
    have hba := below_alloc w (.cells #[] 9)
    have hra := hr.below hba
    clear hr
    go_enter Try.func24, Try.ntmps24
    go_wp2_with (refine wpList_appW _ rfl (.tmp 5) (.tmp 6) 49 rfl 9 i0 (.string ByteArray.empty) 16 Try.underlying49 hi0 hz0 hz1 hz2 rfl w.heap.size (some ⟨w.heap.size, 0, none⟩) 0 0 [] rfl (OwV.empty _ _ _ _) (some ad) n c (strs xss) rfl hra (kstrs_one xss) ?c1 ?c2 ?c3 ?_)
    case c1 => omega
    case c2 => unfold maxLen; omega
    case c3 => simp
    intro p' c' w' h1 hb2
    have HO : Hid (OwV 9 w' w.heap.size p' n c' (strs xss) ∧ Below w.heap.size w w') := ⟨by simpa using h1, hba.trans hb2⟩
    clear h1 hb2 hba hra
    go_wp2_with fail
    go_ret
    exact ⟨p', c', by simp, HO.out.1, HO.out.2⟩

set_option maxRecDepth 20000 in
set_option maxHeartbeats 1000000 in
theorem texts_any (p : Option Addr) (n c : Nat) (vs : List Value) (xss : List (List Int)) (w : World) (hv : RdV w p n c vs) (hs : Sls w vs xss) (hn : n = xss.length) (hfew : n ≤ 1000000) :
    Calls Try.prog 22 #[.slice p n c] w fun e w' => ∃ p' c', e = .returned (.slice p' n c') ∧ OwV 9 w' w.heap.size p' n c' (strs xss) ∧ Below w.heap.size w w' := by
  obtain ⟨i0, hi0, hz0, hz1, hz2⟩ := info_parts infoT
  have HN : Hid (n = xss.length) := hn
  have HV : Hid (RdV w p n c vs) := hv
  have HS : Hid (Sls w vs xss) := hs
  clear hn hv hs
  go_enter Try.func22, Try.ntmps22
  go_wp2_with fail
  go_loopw [8, 3] (fun ix l wr => ∃ (k : Nat) (p' : Option Addr) (c' : Nat), k ≤ n ∧ ix = .int .i64 k ∧ l = .slice p' k c' ∧ OwV 9 wr w.heap.size p' k c' (strs (xss.take k)) ∧ Below w.heap.size w wr) (fun ix _ _ => n - (intOf ix).toNat)
  case atStart => exact ⟨0, none, 0, by omega, rfl, rfl, OwV.empty _ _ _ _, Below.refl _ _⟩
  case round =>
    obtain ⟨k, p', c', hk, rfl, rfl, ho, hb⟩ := hrel
    by_cases hkn : k < n
    · have hki : (k : Int) < (n : Int) := by omega
      have hkr : k < xss.length := by rw [← HN.out]; exact hkn
      obtain ⟨b, o, rfl, hcl⟩ := HV.out.cells (by omega)
      obtain ⟨q, m, d, hq, hr⟩ := HS.out.2 k (by rw [HS.out.1]; exact hkr)
      have hcx := cell_below hb (hcl k hkn)
      rw [hq] at hcx
      obtain ⟨ys, hys⟩ : ∃ z, Hid (z = xss.getD k []) := ⟨_, rfl⟩
      rw [← hys.out] at hr
      have hst := (hr.below' hb).str
      have hcz : (wr.alloc (.cells #[.string (strOfNums ys)] 9)).cell? ⟨wr.heap.size, 0, none⟩ = some (.string (strOfNums ys)) := by simp
      have hsz := hb.size
      clear hcl hq hr
      go_wp2_with (refine wpList_appV _ rfl (.tmp 12) (.tmp 15) 49 rfl 9 i0 (.string ByteArray.empty) 16 Try.underlying49 hi0 hz0 hz1 hz2 rfl w.heap.size p' k c' _ rfl (ho.below (below_alloc _ _)) _ _ _ _ rfl hcz rfl ?b1 ?b2 ?b3 ?_)
      case b1 => omega
      case b2 => unfold maxLen; omega
      case b3 => (simp; omega)
      intro p3 c3 w6 ho3 hb3 hk3
      have hbb3 := (hb.alloc hb.size (.cells #[.string (strOfNums ys)] 9)).trans hb3
      have HO3 : Hid (OwV 9 w6 w.heap.size p3 (k + 1) c3 (strs (xss.take (k + 1)))) := by
        show OwV _ _ _ _ _ _ _
        rw [strs_snoc hkr, ← hys.out]
        exact ho3
      clear ho3 ho hb hb3 hk3 hst hcz hcx
      go_wp2_with fail
      go_roundw
      case rel => exact ⟨k + 1, p3, c3, by omega, by go_num, by go_num, HO3.out, hbb3⟩
      case measure => simp [intOf]; omega
    · have hki : ¬ (k : Int) < (n : Int) := by omega
      obtain rfl : k = n := by omega
      have HO : Hid (OwV 9 wr w.heap.size p' k c' (strs xss) ∧ Below w.heap.size w wr) := by
        have h1 : xss.take k = xss := List.take_of_length_le (by rw [← HN.out]; exact Nat.le_refl _)
        rw [h1] at ho
        exact ⟨ho, hb⟩
      clear ho hb
      go_wp2_with fail
      go_ret
      exact ⟨p', c', rfl, HO.out.1, HO.out.2⟩

theorem RdV.front {w : World} {p : Option Addr} {n c i : Nat} {vs : List Value} (h : RdV w p n c vs) (hi : i ≤ n) : RdV w p i c (vs.take i) := by
  refine ⟨by rw [List.length_take, h.len]; omega, Nat.le_trans hi h.cap, h.nil, fun h0 => ?_⟩
  obtain ⟨b, o, e, hc⟩ := h.cells (by omega)
  refine ⟨b, o, e, fun j hj => ?_⟩
  rw [hc j (by omega), List.getD_eq_getElem?_getD, List.getD_eq_getElem?_getD, List.getElem?_take_of_lt hj]

theorem txt_take (xs : List ByteArray) (i : Nat) : (txt xs).take i = txt (xs.take i) := by
  unfold txt
  rw [List.map_take]

set_option maxRecDepth 20000 in
set_option maxHeartbeats 1000000 in
theorem between_any (p q : Option Addr) (i c n d lo : Nat) (ys : List ByteArray) (w : World) (hx : RdV w p i c (txt (ys.take i))) (hy : RdV w q n d (txt ys)) (h1 : lo ≤ i) (h2 : i ≤ n) (hn : n ≤ 1099511627776) :
    Calls Try.prog 27 #[.slice p i c, .slice q n d, .int .i64 lo] w fun e w' => e = .returned (.bool true) ∧ Below w.heap.size w w' := by
  have hE := eqStr_any p q i c i d (ys.take i) (ys.take i) w hx (by rw [← txt_take]; exact hy.front h2) (by omega) (by omega)
  rw [sameT_yes rfl] at hE
  have d1 : decide ((lo : Int) ≤ (i : Int)) = true := decide_eq_true (by omega)
  have d2 : decide ((i : Int) ≤ (n : Int)) = true := decide_eq_true (by omega)
  have hcap := hy.cap
  have hi2 : (i : Int) ≤ (d : Int) := by omega
  clear hx hy
  go_enter Try.func27, Try.ntmps27
  go_wp2_with fail
  refine hE.mono ?_
  rintro e w1 ⟨rfl, hb⟩
  clear hE
  go_wp2_with fail
  go_ret
  exact ⟨rfl, hb⟩


/-- What reopened tells. -/
def Reo (w : World) (own : Nat → Nat) (g : Nat) (base : List Int) (R : List (List Int)) (lo : Nat) (e : Ending) (w' : World) : Prop := ∃ p' i c', e = .returned (.tuple #[.agg #[.pointer none, .int .i64 0, .string (strOfNums base), .slice p' i c', .int .i64 0, .int .i64 0], .int .i64 0]) ∧ lo ≤ i ∧ i ≤ R.length ∧ RdV w' p' i c' (txt (txb (R.take i))) ∧ Ch (fun k => ¬ Fg2 own g k) w w'

theorem sizeT6 : (Try.prog.info? 59).map (·.size) = some 6 := by kernel_rfl

set_option maxRecDepth 20000 in
set_option maxHeartbeats 4000000 in
theorem reopened_any (w : World) (L g : Nat) (own : Nat → Nat) (d : Dk) (m : PD) (hD : DS w L 0 g own d m) (base : List Int) (R : List (List Int)) (lo : Nat) (hG : Got (onM m) base R lo) :
    Calls Try.prog 25 #[.pointer (some ⟨g, 0, none⟩)] w (Reo w own g base R lo) := by
  have hba := below_alloc w (.cells #[.pointer none, .int .i64 0, .string ⟨#[]⟩, .slice none 0 0, .int .i64 0, .int .i64 0] 59)
  have hAt := At.new 59 w #[.pointer none, .int .i64 0, .string ⟨#[]⟩, .slice none 0 0, .int .i64 0, .int .i64 0]
  obtain ⟨gz, Hgz⟩ : ∃ z, Hid (z = w.heap.size) := ⟨_, rfl⟩
  rw [← Hgz.out] at hAt
  obtain ⟨w1, Hw1⟩ : ∃ z, Hid (z = w.alloc (.cells #[.pointer none, .int .i64 0, .string ⟨#[]⟩, .slice none 0 0, .int .i64 0, .int .i64 0] 59)) := ⟨_, rfl⟩
  rw [← Hw1.out] at hba hAt
  have hD1 := hD.below hba
  have hgl : g < w.heap.size := hD.da.dc.lt
  have HF : Hid (Fg2 own g gz) := ⟨Or.inl (hD.da.fr gz (by rw [Hgz.out]; exact Nat.le_refl _)), by rw [Hgz.out]; omega⟩
  have hr0 : 0 < m.room := hG.ok.r0
  have hSt := Start_ok w1 L own 0 g d m hD1.da hr0
  have HB1 : Hid (Below w.heap.size w w1) := hba
  have HA1 : Hid (At 59 w1 gz #[.pointer none, .int .i64 0, .string ⟨#[]⟩, .slice none 0 0, .int .i64 0, .int .i64 0]) := hAt
  have HD1 : Hid (DS w1 L 0 g own d m) := hD1
  have HG : Hid (Got (onM m) base R lo) := hG
  clear hba hAt hD1 hD hG hr0
  go_enter Try.func25, Try.ntmps25
  go_wp2_with fail
  rw [← Hgz.out, ← Hw1.out]
  refine hSt.mono ?_
  rintro e w2 ⟨rfl, hD2, hc2⟩
  clear hSt
  have hDS2 : DS w2 L 0 g own { d with down := false } (onM m) := HD1.out.mv hD2 hc2.size (fun _ _ => rfl)
  have HA2 : Hid (At 59 w2 gz #[.pointer none, .int .i64 0, .string ⟨#[]⟩, .slice none 0 0, .int .i64 0, .int .i64 0]) := HA1.out.ch hc2 (fun e => HF.out.2 e)
  have HC2 : Hid (Ch (fun k => ¬ Fg2 own g k) w w2) := (Ch.of_below HB1.out _).trans (hc2.mono fun k _ e h => h.2 e)
  have hO := Open_S2 w2 L 0 g own (onM m) 100000 (by decide) ⟨_, hDS2⟩ ⟨HG.out.ok, HG.out.cal.up⟩ (by decide) HG.out.bys HG.out.cf HG.out.fit HG.out.few
  rw [HG.out.code] at hO
  clear hD2 hc2 hDS2
  obtain ⟨m3, Hm3⟩ : ∃ z, Hid (z = (opM (onM m)).2.1) := ⟨_, rfl⟩
  obtain ⟨t3, Ht3⟩ : ∃ z, Hid (z = (opM (onM m)).2.2) := ⟨_, rfl⟩
  rw [← Hm3.out, ← Ht3.out] at hO
  have HBs : Hid (t3.r.base = base) := by rw [Ht3.out]; exact HG.out.base
  have HRc : Hid (∃ i, lo ≤ i ∧ i ≤ R.length ∧ t3.r.recs = R.take i) := by rw [Ht3.out]; exact HG.out.recs
  have HFit : Hid (t3.r.fit ∧ t3.r.recs.length ≤ 1000000) := by rw [Ht3.out]; exact HG.out.fresh
  clear HG
  go_wp2_with fail
  refine hO.mono ?_
  rintro e w3 ⟨gt, he, own3, hT3, ho3, hc3⟩
  have he' : e = .returned (.tuple #[.pointer (some ⟨gt, 0, none⟩), .int .i64 0]) := he
  clear he
  subst he'
  clear hO
  have HA3 : Hid (At 59 w3 gz #[.pointer none, .int .i64 0, .string ⟨#[]⟩, .slice none 0 0, .int .i64 0, .int .i64 0]) := HA2.out.ch hc3 (fun e => e HF.out)
  have HC3 : Hid (Ch (fun k => ¬ Fg2 own g k) w w3) := HC2.out.trans hc3
  have HT : Hid (∀ W, Bl w3 W → TSo W L 0 g gt m3 t3) := fun W h => hT3.o.below (Bl.out' h)
  clear hT3 ho3 hc3
  obtain ⟨nB, HnB⟩ : ∃ z, Hid (z = t3.r.base.length) := ⟨_, rfl⟩
  obtain ⟨nW, HnW⟩ : ∃ z, Hid (z = t3.r.recs.length) := ⟨_, rfl⟩
  obtain ⟨sB, HSB⟩ : ∃ z, Hid (z = strOfNums t3.r.base) := ⟨_, rfl⟩
  have HLb : Hid (t3.r.base.length ≤ 1099511627776) := by have := HFit.out.1.base.1; show _ ≤ _; omega
  have HFw : Hid (t3.r.recs.length ≤ 1099511627776) := by have := HFit.out.2; show _ ≤ _; omega
  have HRl : Hid (∀ d ∈ t3.r.recs, d.length ≤ 1099511627776) := fun d hd => by have := (getD_all (P := fun d => By d ∧ d.length ≤ 8192) HFit.out.1.recs d hd).2; omega
  have HGZ : Hid (gz < w3.heap.size) := HA3.out.lt
  go_wp2_with fail
  have hS8 : Bl w3 w3.drew := (Below.refl _ _).drew
  refine wp_region_dyn [0, 3, 6] (fun _ => True) (Bl w3) (by kernel_rfl) hS8 ?_
  clear hS8
  refine wpDyn_take ?vU0 (Bl.stays w3) (fun _ _ => trivial) (i := 0) rfl (by kernel_rfl) (by kernel_rfl) (by kernel_rfl) (by kernel_rfl) (by kernel_rfl) (fun _ _ _ h => h) (Gives.value (by rfl) ?yU0) ?rU0
  case yU0 => (intro w' hSw; (try dsimp only at hSw); go_simp; try with_reducible rfl)
  (try simp only [Act.put, List.getElem_toArray, List.getElem_cons_zero, List.getElem_cons_succ, List.setIfInBounds_toArray, List.set_cons_zero, List.set_cons_succ])
  refine wpDyn_take ?vU3 (Bl.stays w3) (fun _ _ => trivial) (i := 3) rfl (by kernel_rfl) (by kernel_rfl) (by kernel_rfl) (by kernel_rfl) (by kernel_rfl) (fun _ _ _ h => h) (Gives.value (by rfl) ?yU3) ?rU3
  case yU3 => (intro w' hSw; (try dsimp only at hSw); go_simp; try with_reducible rfl)
  (try simp only [Act.put, List.getElem_toArray, List.getElem_cons_zero, List.getElem_cons_succ, List.setIfInBounds_toArray, List.set_cons_zero, List.set_cons_succ])
  refine wpDyn_take ?vU6 (Bl.stays w3) (fun _ _ => trivial) (i := 6) rfl (by kernel_rfl) (by kernel_rfl) (by kernel_rfl) (by kernel_rfl) (by kernel_rfl) (fun _ _ _ h => h) (Gives.value (by rfl) ?yU6) ?rU6
  case yU6 => (intro w' hSw; (try dsimp only at hSw); go_simp; try with_reducible rfl)
  (try simp only [Act.put, List.getElem_toArray, List.getElem_cons_zero, List.getElem_cons_succ, List.setIfInBounds_toArray, List.set_cons_zero, List.set_cons_succ])
  refine wpDyn_ready (rs := [1]) (by kernel_rfl) (by simp) (AllDyn.cons rfl (fun V hV K hK => ?_) AllDyn.nil)
  rw [if_pos (by rfl)]
  have hC := Base_S V L 0 g gt m3 t3 (HT.out V hV) HLb.out
  rw [← HnB.out] at hC
  refine wp_enterX 30 #[.pointer (some ⟨gt, 0, none⟩)] (by first | (go_simp; done) | (go_simp; rfl)) (fun v V' => ∃ p' c', v = .slice p' nB c' ∧ Rd .u8 V' p' nB c' t3.r.base ∧ Below V.heap.size V V') (hC.mono fun e V' ⟨⟨p', c', h1, h2, _⟩, h3⟩ => ⟨_, h1, p', c', rfl, h2, h3⟩) ?_
  rintro v V1 ⟨p1, c1, rfl, hR, hb⟩
  refine hK.out (fun W => Bl w3 W ∧ Rd .u8 W p1 nB c1 t3.r.base) _ _ (fun _ _ h hb => ⟨Bl.stays w3 _ _ h.1 hb, h.2.below' hb⟩) (fun _ _ _ => trivial) ⟨Bl.stays w3 _ _ hV hb, hR⟩ ?_
  clear hK K hV hC hR hb
  (try simp only [Act.put, List.getElem_toArray, List.getElem_cons_zero, List.getElem_cons_succ, List.setIfInBounds_toArray, List.set_cons_zero, List.set_cons_succ])
  refine wpDyn_ready (rs := [2, 4]) (by kernel_rfl) (by simp) (AllDyn.cons rfl (fun V hV K hK => ?_) (AllDyn.cons rfl (fun V hV K hK => ?_) AllDyn.nil))
  · rw [if_pos (by rfl)]
    have hcv : (convert 22 9 (.slice p1 nB c1)).run Try.prog V = .ok (.string sB) V := by rw [HSB.out]; exact hV.2.str
    refine wp_value (.string sB) V (by first | (go_simp; done) | (go_simp; rfl)) ?_
    refine hK.out (Bl w3) _ _ (Bl.stays w3) (fun _ _ _ => trivial) hV.1 ?_
    clear hcv hK K hV
    (try simp only [Act.put, List.getElem_toArray, List.getElem_cons_zero, List.getElem_cons_succ, List.setIfInBounds_toArray, List.set_cons_zero, List.set_cons_succ])
    refine wpDyn_ready (rs := [4]) (by kernel_rfl) (by simp) (AllDyn.cons rfl (fun V hV K hK => ?_) AllDyn.nil)
    rw [if_pos (by rfl)]
    have hC := Recs_S V L 0 g gt m3 t3 (HT.out V hV) HFw.out HRl.out
    rw [← HnW.out, strs_txb] at hC
    have hVs := (Bl.out' hV).size
    refine wp_enterX 31 #[.pointer (some ⟨gt, 0, none⟩)] (by first | (go_simp; done) | (go_simp; rfl)) (fun v V' => ∃ p' c', v = .slice p' nW c' ∧ RdV V' p' nW c' (txt (txb t3.r.recs)) ∧ (∀ x, p' = some x → 0 < nW → w3.heap.size ≤ x.block) ∧ Below V.heap.size V V') (hC.mono fun e V' ⟨⟨p', c', h1, h2, h4⟩, h3⟩ => ⟨_, h1, p', c', rfl, h2, fun x e h0 => Nat.le_trans hVs (h4 x e h0), h3⟩) ?_
    rintro v V1 ⟨pw, cw, rfl, hR, hpl, hb⟩
    refine hK.out (fun W => Bl w3 W ∧ RdV W pw nW cw (txt (txb t3.r.recs)) ∧ ∀ x, pw = some x → 0 < nW → w3.heap.size ≤ x.block) _ _ (fun _ _ h hb => ⟨Bl.stays w3 _ _ h.1 hb, h.2.1.below hb, h.2.2⟩) (fun _ _ _ => trivial) ⟨Bl.stays w3 _ _ hV hb, hR, hpl⟩ ?_
    clear hK K hV hC hR hb hpl hVs
    (try simp only [Act.put, List.getElem_toArray, List.getElem_cons_zero, List.getElem_cons_succ, List.setIfInBounds_toArray, List.set_cons_zero, List.set_cons_succ])
    refine wpDyn_ready (rs := [5]) (by kernel_rfl) (by simp) (AllDyn.cons rfl (fun V hV K hK => ?_) AllDyn.nil)
    rw [if_pos (by rfl)]
    refine wp_value (.agg #[.pointer none, .int .i64 0, .string sB, .slice pw nW cw, .int .i64 0, .int .i64 0]) V (by first | (go_simp; done) | (go_simp; rfl)) ?_
    refine hK.out (fun W => Bl w3 W ∧ RdV W pw nW cw (txt (txb t3.r.recs)) ∧ ∀ x, pw = some x → 0 < nW → w3.heap.size ≤ x.block) _ _ (fun _ _ h hb => ⟨Bl.stays w3 _ _ h.1 hb, h.2.1.below hb, h.2.2⟩) (fun _ _ _ => trivial) hV ?_
    clear hK K hV
    (try simp only [Act.put, List.getElem_toArray, List.getElem_cons_zero, List.getElem_cons_succ, List.setIfInBounds_toArray, List.set_cons_zero, List.set_cons_succ])
    refine wpDyn_ready (rs := [7]) (by kernel_rfl) (by simp) (AllDyn.cons rfl (fun V hV K hK => ?_) AllDyn.nil)
    rw [if_pos (by rfl)]
    have hAV := HA3.out.below (Bl.out' hV.1)
    have hth : V.there gz 0 6 := fun j hj => by
      refine ⟨?_, hAV.free (0 + j)⟩
      match j, hj with
      | 0, _ => rw [hAV.cell 0]; rfl
      | 1, _ => rw [hAV.cell 1]; rfl
      | 2, _ => rw [hAV.cell 2]; rfl
      | 3, _ => rw [hAV.cell 3]; rfl
      | 4, _ => rw [hAV.cell 4]; rfl
      | 5, _ => rw [hAV.cell 5]; rfl
    refine wp_store_mid 59 _ _ rfl gz 0 #[.pointer none, .int .i64 0, .string sB, .slice pw nW cw, .int .i64 0, .int .i64 0] rfl rfl hth sizeT6 (by simp [Value.oneCell']) ?_
    have hz : (fun W => At 59 W gz #[.pointer none, .int .i64 0, .string sB, .slice pw nW cw, .int .i64 0, .int .i64 0] ∧ RdV W pw nW cw (txt (txb t3.r.recs)) ∧ Ch (fun k => ¬ Fg2 own g k) w W) (V.setCells gz 0 (#[.pointer none, .int .i64 0, .string sB, .slice pw nW cw, .int .i64 0, .int .i64 0] : Array Value).toList) := by
      have hch := Ch.setCells gz (#[.pointer none, .int .i64 0, .string sB, .slice pw nW cw, .int .i64 0, .int .i64 0] : Array Value).toList 0 V
      refine ⟨(At.set6 (At.set6 (At.set6 (At.set6 (At.set6 (At.set6 hAV 0 _) 1 _) 2 _) 3 _) 4 _) 5 _), hV.2.1.ch0 hch (fun x e h0 e2 => ?_), (HC3.out.trans (Ch.of_below (Bl.out' hV.1) _)).then hch (fun j hj e2 => ?_)⟩
      · have := hV.2.2 x e h0
        have h9 := HGZ.out
        omega
      · rw [Hgz.out] at e2; omega
    refine hK.out (fun W => At 59 W gz #[.pointer none, .int .i64 0, .string sB, .slice pw nW cw, .int .i64 0, .int .i64 0] ∧ RdV W pw nW cw (txt (txb t3.r.recs)) ∧ Ch (fun k => ¬ Fg2 own g k) w W) _ _ (fun _ _ h hb => ⟨h.1.below hb, h.2.1.below hb, h.2.2.trans (Ch.of_below hb _)⟩) (fun _ _ _ => trivial) hz ?_
    clear hK K hV hAV hth hz
    (try simp only [Act.put, List.getElem_toArray, List.getElem_cons_zero, List.getElem_cons_succ, List.setIfInBounds_toArray, List.set_cons_zero, List.set_cons_succ])
    refine wpDyn_ready (rs := [8]) (by kernel_rfl) (by simp) (AllDyn.cons rfl (fun V hV K hK => ?_) AllDyn.nil)
    rw [if_pos (by rfl)]
    refine wp_value (.int .i64 0) V (by first | (go_simp; done) | (go_simp; rfl)) ?_
    refine hK.out (fun W => At 59 W gz #[.pointer none, .int .i64 0, .string sB, .slice pw nW cw, .int .i64 0, .int .i64 0] ∧ RdV W pw nW cw (txt (txb t3.r.recs)) ∧ Ch (fun k => ¬ Fg2 own g k) w W) _ _ (fun _ _ h hb => ⟨h.1.below hb, h.2.1.below hb, h.2.2.trans (Ch.of_below hb _)⟩) (fun _ _ _ => trivial) hV ?_
    clear hK K hV
    (try simp only [Act.put, List.getElem_toArray, List.getElem_cons_zero, List.getElem_cons_succ, List.setIfInBounds_toArray, List.set_cons_zero, List.set_cons_succ])
    refine wpDyn_done (by kernel_rfl) (fun W2 hW2 => ?_) _
    have HW : Hid (At 59 W2 gz #[.pointer none, .int .i64 0, .string sB, .slice pw nW cw, .int .i64 0, .int .i64 0] ∧ RdV W2 pw nW cw (txt (txb t3.r.recs)) ∧ Ch (fun k => ¬ Fg2 own g k) w W2) := hW2
    clear hW2
    go_wp2_with fail
    ((try simp only [Exit.inBlock, Exit.then]); refine bodyPost_ret (results_row_tmp (p := 2) (u := 3) rfl _ _ gz _ _ _ rfl HW.out.1 Try.underlying59 rfl sizeT6) rfl ?_)
    obtain ⟨i, hi1, hi2, hi3⟩ := HRc.out
    have hnw : nW = i := by rw [HnW.out, hi3, List.length_take]; omega
    refine ⟨pw, i, cw, ?_, hi1, hi2, ?_, HW.out.2.2⟩
    · rw [← HBs.out, ← HSB.out, ← hnw]; rfl
    · rw [← hi3, ← hnw]; exact HW.out.2.1
  · rw [if_pos (by rfl)]
    have hC := Recs_S V L 0 g gt m3 t3 (HT.out V hV.1) HFw.out HRl.out
    rw [← HnW.out, strs_txb] at hC
    have hVs := (Bl.out' hV.1).size
    refine wp_enterX 31 #[.pointer (some ⟨gt, 0, none⟩)] (by first | (go_simp; done) | (go_simp; rfl)) (fun v V' => ∃ p' c', v = .slice p' nW c' ∧ RdV V' p' nW c' (txt (txb t3.r.recs)) ∧ (∀ x, p' = some x → 0 < nW → w3.heap.size ≤ x.block) ∧ Below V.heap.size V V') (hC.mono fun e V' ⟨⟨p', c', h1, h2, h4⟩, h3⟩ => ⟨_, h1, p', c', rfl, h2, fun x e h0 => Nat.le_trans hVs (h4 x e h0), h3⟩) ?_
    rintro v V1 ⟨pw, cw, rfl, hR, hpl, hb⟩
    refine hK.out (fun W => Bl w3 W ∧ Rd .u8 W p1 nB c1 t3.r.base ∧ RdV W pw nW cw (txt (txb t3.r.recs)) ∧ ∀ x, pw = some x → 0 < nW → w3.heap.size ≤ x.block) _ _ (fun _ _ h hb => ⟨Bl.stays w3 _ _ h.1 hb, h.2.1.below' hb, h.2.2.1.below hb, h.2.2.2⟩) (fun _ _ _ => trivial) ⟨Bl.stays w3 _ _ hV.1 hb, hV.2.below' hb, hR, hpl⟩ ?_
    clear hK K hV hC hR hb hpl hVs
    (try simp only [Act.put, List.getElem_toArray, List.getElem_cons_zero, List.getElem_cons_succ, List.setIfInBounds_toArray, List.set_cons_zero, List.set_cons_succ])
    refine wpDyn_ready (rs := [2]) (by kernel_rfl) (by simp) (AllDyn.cons rfl (fun V hV K hK => ?_) AllDyn.nil)
    rw [if_pos (by rfl)]
    have hcv : (convert 22 9 (.slice p1 nB c1)).run Try.prog V = .ok (.string sB) V := by rw [HSB.out]; exact hV.2.1.str
    refine wp_value (.string sB) V (by first | (go_simp; done) | (go_simp; rfl)) ?_
    refine hK.out (fun W => Bl w3 W ∧ RdV W pw nW cw (txt (txb t3.r.recs)) ∧ ∀ x, pw = some x → 0 < nW → w3.heap.size ≤ x.block) _ _ (fun _ _ h hb => ⟨Bl.stays w3 _ _ h.1 hb, h.2.1.below hb, h.2.2⟩) (fun _ _ _ => trivial) ⟨hV.1, hV.2.2.1, hV.2.2.2⟩ ?_
    clear hcv hK K hV
    (try simp only [Act.put, List.getElem_toArray, List.getElem_cons_zero, List.getElem_cons_succ, List.setIfInBounds_toArray, List.set_cons_zero, List.set_cons_succ])
    refine wpDyn_ready (rs := [5]) (by kernel_rfl) (by simp) (AllDyn.cons rfl (fun V hV K hK => ?_) AllDyn.nil)
    rw [if_pos (by rfl)]
    refine wp_value (.agg #[.pointer none, .int .i64 0, .string sB, .slice pw nW cw, .int .i64 0, .int .i64 0]) V (by first | (go_simp; done) | (go_simp; rfl)) ?_
    refine hK.out (fun W => Bl w3 W ∧ RdV W pw nW cw (txt (txb t3.r.recs)) ∧ ∀ x, pw = some x → 0 < nW → w3.heap.size ≤ x.block) _ _ (fun _ _ h hb => ⟨Bl.stays w3 _ _ h.1 hb, h.2.1.below hb, h.2.2⟩) (fun _ _ _ => trivial) hV ?_
    clear hK K hV
    (try simp only [Act.put, List.getElem_toArray, List.getElem_cons_zero, List.getElem_cons_succ, List.setIfInBounds_toArray, List.set_cons_zero, List.set_cons_succ])
    refine wpDyn_ready (rs := [7]) (by kernel_rfl) (by simp) (AllDyn.cons rfl (fun V hV K hK => ?_) AllDyn.nil)
    rw [if_pos (by rfl)]
    have hAV := HA3.out.below (Bl.out' hV.1)
    have hth : V.there gz 0 6 := fun j hj => by
      refine ⟨?_, hAV.free (0 + j)⟩
      match j, hj with
      | 0, _ => rw [hAV.cell 0]; rfl
      | 1, _ => rw [hAV.cell 1]; rfl
      | 2, _ => rw [hAV.cell 2]; rfl
      | 3, _ => rw [hAV.cell 3]; rfl
      | 4, _ => rw [hAV.cell 4]; rfl
      | 5, _ => rw [hAV.cell 5]; rfl
    refine wp_store_mid 59 _ _ rfl gz 0 #[.pointer none, .int .i64 0, .string sB, .slice pw nW cw, .int .i64 0, .int .i64 0] rfl rfl hth sizeT6 (by simp [Value.oneCell']) ?_
    have hz : (fun W => At 59 W gz #[.pointer none, .int .i64 0, .string sB, .slice pw nW cw, .int .i64 0, .int .i64 0] ∧ RdV W pw nW cw (txt (txb t3.r.recs)) ∧ Ch (fun k => ¬ Fg2 own g k) w W) (V.setCells gz 0 (#[.pointer none, .int .i64 0, .string sB, .slice pw nW cw, .int .i64 0, .int .i64 0] : Array Value).toList) := by
      have hch := Ch.setCells gz (#[.pointer none, .int .i64 0, .string sB, .slice pw nW cw, .int .i64 0, .int .i64 0] : Array Value).toList 0 V
      refine ⟨(At.set6 (At.set6 (At.set6 (At.set6 (At.set6 (At.set6 hAV 0 _) 1 _) 2 _) 3 _) 4 _) 5 _), hV.2.1.ch0 hch (fun x e h0 e2 => ?_), (HC3.out.trans (Ch.of_below (Bl.out' hV.1) _)).then hch (fun j hj e2 => ?_)⟩
      · have := hV.2.2 x e h0
        have h9 := HGZ.out
        omega
      · rw [Hgz.out] at e2; omega
    refine hK.out (fun W => At 59 W gz #[.pointer none, .int .i64 0, .string sB, .slice pw nW cw, .int .i64 0, .int .i64 0] ∧ RdV W pw nW cw (txt (txb t3.r.recs)) ∧ Ch (fun k => ¬ Fg2 own g k) w W) _ _ (fun _ _ h hb => ⟨h.1.below hb, h.2.1.below hb, h.2.2.trans (Ch.of_below hb _)⟩) (fun _ _ _ => trivial) hz ?_
    clear hK K hV hAV hth hz
    (try simp only [Act.put, List.getElem_toArray, List.getElem_cons_zero, List.getElem_cons_succ, List.setIfInBounds_toArray, List.set_cons_zero, List.set_cons_succ])
    refine wpDyn_ready (rs := [8]) (by kernel_rfl) (by simp) (AllDyn.cons rfl (fun V hV K hK => ?_) AllDyn.nil)
    rw [if_pos (by rfl)]
    refine wp_value (.int .i64 0) V (by first | (go_simp; done) | (go_simp; rfl)) ?_
    refine hK.out (fun W => At 59 W gz #[.pointer none, .int .i64 0, .string sB, .slice pw nW cw, .int .i64 0, .int .i64 0] ∧ RdV W pw nW cw (txt (txb t3.r.recs)) ∧ Ch (fun k => ¬ Fg2 own g k) w W) _ _ (fun _ _ h hb => ⟨h.1.below hb, h.2.1.below hb, h.2.2.trans (Ch.of_below hb _)⟩) (fun _ _ _ => trivial) hV ?_
    clear hK K hV
    (try simp only [Act.put, List.getElem_toArray, List.getElem_cons_zero, List.getElem_cons_succ, List.setIfInBounds_toArray, List.set_cons_zero, List.set_cons_succ])
    refine wpDyn_done (by kernel_rfl) (fun W2 hW2 => ?_) _
    have HW : Hid (At 59 W2 gz #[.pointer none, .int .i64 0, .string sB, .slice pw nW cw, .int .i64 0, .int .i64 0] ∧ RdV W2 pw nW cw (txt (txb t3.r.recs)) ∧ Ch (fun k => ¬ Fg2 own g k) w W2) := hW2
    clear hW2
    go_wp2_with fail
    ((try simp only [Exit.inBlock, Exit.then]); refine bodyPost_ret (results_row_tmp (p := 2) (u := 3) rfl _ _ gz _ _ _ rfl HW.out.1 Try.underlying59 rfl sizeT6) rfl ?_)
    obtain ⟨i, hi1, hi2, hi3⟩ := HRc.out
    have hnw : nW = i := by rw [HnW.out, hi3, List.length_take]; omega
    refine ⟨pw, i, cw, ?_, hi1, hi2, ?_, HW.out.2.2⟩
    · rw [← HBs.out, ← HSB.out, ← hnw]; rfl
    · rw [← hi3, ← hnw]; exact HW.out.2.1

end Go.Proofs.Ytpjhadaiodnnaaa.M
end

section
namespace Go.Proofs.Ytpjhadaiodnnaaa.M
open Go.ChangeShapes Go.WideShapes Go.ChangeAt Go.RowKit
set_option linter.unusedSimpArgs false

/-- What the law does to its own blocks, and what it makes, leaves the tape; all that is new is the law's. -/
theorem TSx.law2 {w w' : World} {L a g gt : Nat} {own : Nat → Nat} {m : PD} {t : TP} (ha : a ≤ 100) (h : TSx w L a g gt own m t) (hc : Ch (fun k => own k = lawM) w w') : TSx w' L a g gt (lawO own w.heap.size w'.heap.size) m t := by
  have hx := h.ch2 ha hc (fun _ e => e)
  obtain ⟨d, pb, nb, cb, pr, cr, vs, Bv, h1, h2, h3, h4, h5⟩ := h
  have hfar : ∀ k, Fre own g k → ¬ own k = lawM := fun k hf e => by rw [hf.1] at e; cases e
  have hD : DS w' L a g own d m := h1.ch2 ha hc (fun _ e => e)
  have hgl : g < w.heap.size := h1.da.dc.lt
  have hD2 : DA w' L (lawO own w.heap.size w'.heap.size) a g d m := by
    refine hD.da.reown (fun k e => ?_) ?_ (fun x e => ?_) (fun k hk => ?_)
    · unfold lawO
      rw [if_neg]
      intro hk
      have h0 := h1.da.fr k hk.1
      rw [h0] at e
      unfold mark at e
      omega
    · rw [lawO_low hgl]; exact h1.da.og
    · rw [lawO_low (h1.da.ok x e).2.2]; exact (h1.da.ok x e).1
    · unfold lawO
      rw [if_neg (by omega)]
      exact h1.da.fr k (Nat.le_trans hc.size hk)
  have hO : TO w' (lawO own w.heap.size w'.heap.size) Bv g gt t pb nb cb pr cr vs := h4.ch hc (fun k hf _ => hfar k hf) (fun k hk e => (lawO_low hk).trans e)
  exact ⟨d, pb, nb, cb, pr, cr, vs, Bv, ⟨hD2, hD.lw, hD.lg, fun k hk => by rw [lawO_low (Nat.lt_of_lt_of_le hk h1.lw)]; exact h1.low k hk⟩, hO.tb (h2.blk.ch hc (hfar gt h2.fg)) ⟨(lawO_low h2.blk.lt).trans h2.fg.1, h2.fg.2⟩, h3, hO, Nat.le_trans h5 hc.size⟩

theorem OwG.keptT {u e : TypeId} {w w' : World} {B n c : Nat} {p : Option Addr} {vs : List Value} (h : OwG u w B p n c vs) (hk : Kept e w w') (hne : u ≠ e) : OwG u w' B p n c vs := by
  have key : 0 < c → ∀ x, p = some x → w'.heap[x.block]? = w.heap[x.block]? := fun h0 x ex => by
    obtain ⟨b, o, cur, e1, hB, hA, hl⟩ := h.own h0
    rw [ex] at e1
    cases e1
    refine hk b hA.lt (fun cs f e2 => ?_)
    have hA' : w.heap[b]? = some (.cells cur u (0, 0)) := hA
    rw [hA'] at e2
    injection e2 with e3
    injection e3 with _ e4 _
    exact hne e4
  refine ⟨⟨h.rd.len, h.rd.cap, h.rd.nil, fun hn => ?_⟩, fun h0 => ?_⟩
  · obtain ⟨b, o, e1, hcl⟩ := h.rd.cells hn
    have hcap := h.rd.cap
    refine ⟨b, o, e1, fun i hi => ?_⟩
    rw [World.cell?_of_block (a := ⟨b, o + i, none⟩) (show w'.heap[b]? = w.heap[b]? from key (by omega) ⟨b, o, none⟩ e1)]
    exact hcl i hi
  · obtain ⟨b, o, cur, e1, hB, hA, hl⟩ := h.own h0
    exact ⟨b, o, cur, e1, hB, (key h0 _ e1).trans hA, hl⟩

/-- A store into such a row. -/
theorem OwG.set6 {e : TypeId} {w : World} {B n c : Nat} {p : Option Addr} {vs : List Value} (h : OwG e w B p n c vs) {i : Nat} (hi : i < n) (v : Value) : ∃ b o, p = some ⟨b, o, none⟩ ∧ w.cell? ⟨b, o + i, none⟩ = some (vs.getD i undef) ∧ w.frozen? ⟨b, o + i, none⟩ = false ∧ OwG e (w.setCell ⟨b, o + i, none⟩ v) B p n c (vs.set i v) := by
  obtain ⟨b, o, e1, hcl⟩ := h.rd.cells (by omega)
  have hcap := h.rd.cap
  obtain ⟨b', o', cur, e2, hB, hA, hl⟩ := h.own (by omega)
  rw [e1] at e2
  cases e2
  refine ⟨b, o, e1, hcl i hi, hA.free _, ⟨by rw [List.length_set]; exact h.rd.len, hcap, h.rd.nil, fun hn => ⟨b, o, e1, fun j hj => ?_⟩⟩, fun h0 => ⟨b, o, _, e1, hB, At.set6 hA (o + i) v, by rw [Array.size_setIfInBounds]; exact hl⟩⟩
  by_cases ej : j = i
  · subst ej
    rw [World.cell?_setCell_same _ _ _ (hcl j hj), List.getD_eq_getElem?_getD, List.getElem?_set_self (by rw [h.rd.len]; exact hj)]
    rfl
  · rw [World.cell?_setCell_other (h := fun e3 => ej (by have := congrArg Addr.off e3; dsimp only at this; omega)), hcl j hj, List.getD_eq_getElem?_getD, List.getD_eq_getElem?_getD, List.getElem?_set_ne (fun e3 => ej e3.symm)]

/-- Arm. -/
theorem Arm_T (w : World) (L g gt : Nat) (own : Nat → Nat) (m : PD) (t : TP) (hT : TSx w L 0 g gt own m t) (hr : 0 < m.room) (hw : m.down = false) (n : Nat) (hn : 1 ≤ n) (q : Option Addr) (l c : Nat) (ks : List Int) (hy : Rd .i64 w q l c ks) (hl : l ≤ 1099511627776) :
    Calls Try.prog 19 #[.pointer (some ⟨g, 0, none⟩), .int .i64 n, .slice q l c] w fun e w' => e = .returned (.int .i64 0) ∧ TSx w' L 0 g gt own { m with left := n, keep := ks } t ∧ Below L w w' := by
  obtain ⟨d, pb, nb, cb, pr, cr, vs, Bv, h1, h2, h3, h4, h5⟩ := hT
  refine (Arm_ok w L own 0 g d m h1.da hr hw n hn q l c ks hy hl).mono ?_
  rintro e w' ⟨rfl, d2, hD, hc⟩
  have hO : TO w' own Bv g gt t pb nb cb pr cr vs := h4.ch hc (fun k hf _ => hf.2) (fun _ _ e => e)
  exact ⟨rfl, ⟨d2, pb, nb, cb, pr, cr, vs, Bv, h1.mv hD hc.size (fun _ _ => rfl), hO.tb (h2.blk.ch hc h2.fg.2) h2.fg, h3, hO, Nat.le_trans h5 hc.size⟩, hc.lowL h1.lw (fun k hk e => by have := h1.lg; omega)⟩

/-- Crash. -/
theorem Crash_T (w : World) (L g gt : Nat) (own : Nat → Nat) (m : PD) (t : TP) (s : Nat) (hT : TSx w L 0 g gt own m t) (hm : m.ok s) (hs : s ≤ 274877906944) (hw : m.down = false) (q : Option Addr) (l c : Nat) (ks : List Int) (hy : Rd .i64 w q l c ks) (hlow : ∀ x, q = some x → 0 < l → x.block < L) (hl : l ≤ 1099511627776) :
    Calls Try.prog 28 #[.pointer (some ⟨g, 0, none⟩), .slice q l c] w fun e w' => e = .returned (.int .i64 0) ∧ (∃ d, DS w' L 0 g own d (m.fall ks)) ∧ Ch (fun k => ¬ Fg2 own g k) w w' := by
  obtain ⟨d, pb, nb, cb, pr, cr, vs, Bv, h1, h2, h3, h4, h5⟩ := hT
  refine (Crash_gen w L own 0 g d m h1.da hm.r0 hw (hm.few (by omega)) q l c ks hy (fun x e h0 => by have := hlow x e h0; have := h1.lg; omega) hl).mono ?_
  rintro e w' ⟨rfl, d2, hD, hc⟩
  exact ⟨rfl, ⟨d2, h1.mv hD hc.size (fun _ _ => rfl)⟩, hc.mono fun k _ e h => h.2 e⟩

theorem TSx.ds {w : World} {L a g gt : Nat} {own : Nat → Nat} {m : PD} {t : TP} (h : TSx w L a g gt own m t) : ∃ d, DS w L a g own d m := by
  obtain ⟨d, pb, nb, cb, pr, cr, vs, Bv, h1, _⟩ := h
  exact ⟨d, h1⟩

/-- The law's rows: bases, reels, and the last reel. -/
structure KR (W : World) (own : Nat → Nat) (L nk : Nat) (pb : Option Addr) (cb : Nat) (us : List (List Int)) (pr : Option Addr) (cr : Nat) (vs : List Value) (pl : Option Addr) (cl : Nat) (R : List (List Int)) : Prop where
  bs : OwG 9 W L pb (nk + 1) cb (strs us)
  rs : OwG 49 W L pr (nk + 1) cr vs
  lv : vs.getD nk undef = .slice pl R.length cl
  lr : OwG 9 W L pl R.length cl (strs R)
  mb : ∀ x, pb = some x → 0 < cb → own x.block = lawM
  mr : ∀ x, pr = some x → 0 < cr → own x.block = lawM
  ml : ∀ x, pl = some x → 0 < cl → own x.block = lawM
  ap : ∀ x y, pl = some x → pb = some y → 0 < cl → 0 < cb → x.block ≠ y.block

theorem KR.below {W W' : World} {own : Nat → Nat} {L nk : Nat} {pb : Option Addr} {cb : Nat} {us : List (List Int)} {pr : Option Addr} {cr : Nat} {vs : List Value} {pl : Option Addr} {cl : Nat} {R : List (List Int)} (h : KR W own L nk pb cb us pr cr vs pl cl R) (hb : Below W.heap.size W W') : KR W' own L nk pb cb us pr cr vs pl cl R :=
  ⟨h.bs.below hb, h.rs.below hb, h.lv, h.lr.below hb, h.mb, h.mr, h.ml, h.ap⟩

/-- Behind a call of the tape. -/
theorem KR.op {W W' : World} {own own2 : Nat → Nat} {g L nk : Nat} {pb : Option Addr} {cb : Nat} {us : List (List Int)} {pr : Option Addr} {cr : Nat} {vs : List Value} {pl : Option Addr} {cl : Nat} {R : List (List Int)} (h : KR W own L nk pb cb us pr cr vs pl cl R) (hg : own g = 0) (hc : Ch (fun k => ¬ Fg2 own g k) W W') (ho : ∀ k, k < W.heap.size → own2 k = own k) : KR W' own2 L nk pb cb us pr cr vs pl cl R := by
  have key : ∀ k, own k = lawM → ¬ ¬ Fg2 own g k := fun k e h => h ⟨Or.inr e, fun e2 => by rw [e2, hg] at e; cases e⟩
  exact ⟨h.bs.chC hc (fun x e h0 => key _ (h.mb x e h0)), h.rs.chC hc (fun x e h0 => key _ (h.mr x e h0)), h.lv, h.lr.chC hc (fun x e h0 => key _ (h.ml x e h0)), fun x e h0 => (ho _ (h.bs.ltC x e h0).2).trans (h.mb x e h0), fun x e h0 => (ho _ (h.rs.ltC x e h0).2).trans (h.mr x e h0), fun x e h0 => (ho _ (h.lr.ltC x e h0).2).trans (h.ml x e h0), h.ap⟩

theorem TSx.og {w : World} {L a g gt : Nat} {own : Nat → Nat} {m : PD} {t : TP} (h : TSx w L a g gt own m t) : own g = 0 := by
  obtain ⟨d, h1⟩ := h.ds
  exact h1.da.og

/-- Where the law is. -/
structure KI (w3 wr : World) (L g gt : Nat) (own : Nat → Nat) (ls : List Tv) (j : Nat) (m : PD) (t : TP) (kk nk : Nat) (pb : Option Addr) (cb : Nat) (us : List (List Int)) (pr : Option Addr) (cr : Nat) (vs : List Value) (pl : Option Addr) (cl : Nat) : Prop where
  ts : TSx wr L 0 g gt own m t
  kp : Kp m t kk (1000 + 100 * j + 4 * szT ls j) (1 + j)
  few : t.r.recs.length ≤ j + szT ls j
  kr : KR wr own L nk pb cb us pr cr vs pl cl t.r.recs
  lb : us.getD nk [] = t.r.base
  nkj : nk ≤ j
  bel : Below L w3 wr

theorem mq1_kp (n : Nat) (hn : n ≤ 5000) (ks : List Int) (hk : ks.length ≤ 16384) : Kp { mq1 with left := n, keep := ks } ⟨0, 0, ⟨1, [], []⟩⟩ 0 1000 1 := by
  have hf : ∀ i, i < 8 → i ≠ 0 → (mq1.f i).told = [] ∧ (mq1.f i).lasts = [] := by decide +kernel
  have h0 : (fileR 1 0 [] []).length ≤ (mq1.f 0).lasts.length := by decide +kernel
  have h1 : ∀ i, i < 2 → (mq1.f i).told.length ≤ 1000 ∧ (mq1.f i).lasts.length ≤ 1000 := by decide +kernel
  have h2 : ∀ i, i < 2 → By (mq1.f i).told ∧ By (mq1.f i).lasts := by unfold By; decide +kernel
  refine ⟨by decide, by decide, ⟨Nat.zero_le _, By.nil⟩, fun _ h => (by cases h), Nat.le_refl _, ⟨0, Nat.le_refl _, Nat.zero_le _, by kernel_rfl, h0⟩, by kernel_rfl, ?_, ⟨fun j => ?_, ?_⟩, rfl, rfl, hk, by show n ≤ _; omega, ⟨h1, fun i h2 h8 => hf i h8 (by omega), h2⟩⟩
  · show (mq1.f 0).lasts <+: (mq1.f 0).told
    have e : (mq1.f 0).lasts = (mq1.f 0).told := by kernel_rfl
    rw [e]
    exact List.prefix_refl _
  · show (ldR ((mq1.f 1).told.take j)).1.gen < 1
    rw [(hf 1 (by decide) (by decide)).1, List.take_nil, ldR_nil]
    decide
  · show (ldR (mq1.f 1).lasts).1.gen < 1
    rw [(hf 1 (by decide) (by decide)).2, ldR_nil]
    decide

theorem szT_step (ls : List Tv) (j : Nat) : szT ls (j + 1) = szT ls j + (ls.getD j .z0).sz := rfl

theorem szT_mono (ls : List Tv) : ∀ k j, j ≤ k → szT ls j ≤ szT ls k
  | 0, j, h => by rw [Nat.le_zero.1 h]; exact Nat.le_refl _
  | k + 1, j, h => by
    rcases Nat.lt_or_ge j (k + 1) with h1 | h1
    · have := szT_mono ls k j (by omega)
      rw [szT_step]
      omega
    · rw [show j = k + 1 by omega]
      exact Nat.le_refl _

/-- A reel's bytes are not many more than what it is made of. -/
theorem flat_cost : ∀ (l : List (List Int)) (k : Nat), k ≤ l.length → lsz l k ≤ 16384 → (((l.take k).map sealL).flatten).length ≤ 4 * lsz l k
  | _, 0, _, _ => by simp
  | l, k + 1, hk, h => by
    have e : lsz l (k + 1) = lsz l k + (4 + min (l.getD k []).length 16385) := rfl
    have ih := flat_cost l k (by omega) (by omega)
    rw [flat_take (show k < l.length by omega), List.length_append]
    have hl : (l.getD k []).length ≤ 16384 := by omega
    have hs : (sealL (l.getD k [])).length ≤ (l.getD k []).length + 14 := by
      rw [length_sealL]
      have := putL_len (m := (l.getD k []).length) (by omega)
      omega
    omega

theorem sealR_cost {g : Int} {base : List Int} {l : List (List Int)} (hg : g ≤ 1099511627776) (h : lsz l l.length ≤ 16384) (hb : base.length ≤ 16384) : (sealR ⟨g, base, l⟩).length ≤ 60 + base.length + 4 * lsz l l.length := by
  unfold sealR
  rw [List.length_append]
  have h1 := flat_cost l l.length (Nat.le_refl _) h
  rw [List.take_length] at h1
  have h4 := lsz_ge l l.length
  have h5 : (headR ⟨g, base, l⟩).length ≤ 30 + base.length := by
    rw [headR_hd]
    show (hdR g.toNat l.length base).length ≤ _
    unfold hdR
    rw [List.length_append, List.length_append, List.length_append]
    have k1 := putL_len (m := g.toNat) (by omega)
    have k2 := putL_len (m := l.length) (by omega)
    have k3 := putL_len (m := base.length) (by omega)
    omega
  have h6 : (sealL (headR ⟨g, base, l⟩)).length ≤ (headR ⟨g, base, l⟩).length + 14 := by
    rw [length_sealL]
    have := putL_len (m := (headR ⟨g, base, l⟩).length) (by omega)
    omega
  show (sealL (headR ⟨g, base, l⟩)).length + ((l.map sealL).flatten).length ≤ _
  omega

end Go.Proofs.Ytpjhadaiodnnaaa.M
end

section
namespace Go.Proofs.Ytpjhadaiodnnaaa.M
open Go.ChangeShapes Go.WideShapes Go.ChangeAt Go.RowKit
set_option linter.unusedSimpArgs false

theorem OwG.neT {u e : TypeId} {w : World} {B B' n n' c c' : Nat} {p p' : Option Addr} {vs vs' : List Value} (h : OwG u w B p n c vs) (h' : OwG e w B' p' n' c' vs') (hne : u ≠ e) : ∀ x y, p = some x → p' = some y → 0 < c → 0 < c' → x.block ≠ y.block := fun x y ex ey h0 h0' e1 => by
  obtain ⟨b, o, cur, e2, _, hA, _⟩ := h.own h0
  obtain ⟨b', o', cur', e3, _, hA', _⟩ := h'.own h0'
  rw [ex] at e2
  rw [ey] at e3
  cases e2
  cases e3
  have e4 : b = b' := e1
  rw [e4] at hA
  have h1 : w.heap[b']? = some (.cells cur u (0, 0)) := hA
  have h2 : w.heap[b']? = some (.cells cur' e (0, 0)) := hA'
  rw [h1] at h2
  injection h2 with h3
  injection h3 with _ h4 _
  exact hne h4

theorem KI.below {w3 wr w' : World} {L g gt : Nat} {own : Nat → Nat} {ls : List Tv} {j : Nat} {m : PD} {t : TP} {kk nk : Nat} {pb : Option Addr} {cb : Nat} {us : List (List Int)} {pr : Option Addr} {cr : Nat} {vs : List Value} {pl : Option Addr} {cl : Nat} (h : KI w3 wr L g gt own ls j m t kk nk pb cb us pr cr vs pl cl) (hb : Below wr.heap.size wr w') : KI w3 w' L g gt own ls j m t kk nk pb cb us pr cr vs pl cl :=
  ⟨h.ts.below hb, h.kp, h.few, h.kr.below hb, h.lb, h.nkj, h.bel.trans (hb.mono h.ts.o.lw)⟩

/-- A round that does nothing to the tape. -/
theorem KI.skip {w3 wr : World} {L g gt : Nat} {own : Nat → Nat} {ls : List Tv} {j : Nat} {m : PD} {t : TP} {kk nk : Nat} {pb : Option Addr} {cb : Nat} {us : List (List Int)} {pr : Option Addr} {cr : Nat} {vs : List Value} {pl : Option Addr} {cl : Nat} (h : KI w3 wr L g gt own ls j m t kk nk pb cb us pr cr vs pl cl) : KI w3 wr L g gt own ls (j + 1) m t kk nk pb cb us pr cr vs pl cl := by
  have e := szT_mono ls (j + 1) j (Nat.le_succ _)
  exact ⟨h.ts, h.kp.mono (by omega) (by omega), by have := h.few; omega, h.kr, h.lb, by have := h.nkj; omega, h.bel⟩

/-- What the law's store of a longer last reel leaves. -/
structure K13 (w6 W : World) (own : Nat → Nat) (L nk : Nat) (pb : Option Addr) (cb : Nat) (us : List (List Int)) (pr : Option Addr) (cr : Nat) (vs : List Value) (p11 : Option Addr) (c11 : Nat) (R : List (List Int)) : Prop where
  ch : Ch (fun k => own k = lawM) w6 W
  bs : OwG 9 W L pb (nk + 1) cb (strs us)
  rs : OwG 49 W L pr (nk + 1) cr (vs.set nk (.slice p11 R.length c11))
  nw : OwG 9 W w6.heap.size p11 R.length c11 (strs R)

theorem K13.below {w6 W W' : World} {own : Nat → Nat} {L nk : Nat} {pb : Option Addr} {cb : Nat} {us : List (List Int)} {pr : Option Addr} {cr : Nat} {vs : List Value} {p11 : Option Addr} {c11 : Nat} {R : List (List Int)} (h : K13 w6 W own L nk pb cb us pr cr vs p11 c11 R) (hb : Below W.heap.size W W') : K13 w6 W' own L nk pb cb us pr cr vs p11 c11 R :=
  ⟨h.ch.trans (Ch.of_below hb _), h.bs.below hb, h.rs.below hb, h.nw.below hb⟩

theorem KR.put {w6 W : World} {own : Nat → Nat} {L nk : Nat} {pb : Option Addr} {cb : Nat} {us : List (List Int)} {pr : Option Addr} {cr : Nat} {vs : List Value} {pl : Option Addr} {cl : Nat} {R0 R : List (List Int)} {p11 : Option Addr} {c11 : Nat} (h : KR w6 own L nk pb cb us pr cr vs pl cl R0) (hL : L ≤ w6.heap.size) (h2 : K13 w6 W own L nk pb cb us pr cr vs p11 c11 R) : KR W (lawO own w6.heap.size W.heap.size) L nk pb cb us pr cr (vs.set nk (.slice p11 R.length c11)) p11 c11 R := by
  have hlen := h.rs.len
  refine ⟨h2.bs, h2.rs, ?_, h2.nw.lowerB hL, fun x e h0 => ?_, fun x e h0 => ?_, fun x e h0 => ?_, fun x y ex ey h0 h0' => ?_⟩
  · rw [List.getD_eq_getElem?_getD, List.getElem?_set_self (by omega)]
    rfl
  · rw [lawO_low (h.bs.ltC x e h0).2]; exact h.mb x e h0
  · rw [lawO_low (h.rs.ltC x e h0).2]; exact h.mr x e h0
  · have := h2.nw.ltC x e h0
    exact lawO_in this.1 this.2
  · have h3 := (h2.nw.ltC x ex h0).1
    have h4 := (h.bs.ltC y ey h0').2
    omega

/-- What the law's new base and new reel leave. -/
structure K11 (w6 W : World) (own : Nat → Nat) (L nk : Nat) (p5 : Option Addr) (c5 : Nat) (us : List (List Int)) (p11 : Option Addr) (c11 : Nat) (vs : List Value) (pl : Option Addr) (cl : Nat) (R0 : List (List Int)) (p9 : Option Addr) (c9 : Nat) (R : List (List Int)) : Prop where
  ch : Ch (fun k => own k = lawM) w6 W
  bs : OwG 9 W L p5 (nk + 1 + 1) c5 (strs us)
  rs : OwG 49 W L p11 (nk + 1 + 1) c11 (vs ++ [.slice p9 R.length c9])
  lr : OwG 9 W L pl R0.length cl (strs R0)
  nw : OwG 9 W w6.heap.size p9 R.length c9 (strs R)
  m5 : ∀ x, p5 = some x → 0 < c5 → own x.block = lawM ∨ w6.heap.size ≤ x.block
  m11 : ∀ x, p11 = some x → 0 < c11 → own x.block = lawM ∨ w6.heap.size ≤ x.block
  ap : ∀ x y, p9 = some x → p5 = some y → 0 < c9 → 0 < c5 → x.block ≠ y.block

theorem K11.below {w6 W W' : World} {own : Nat → Nat} {L nk : Nat} {p5 : Option Addr} {c5 : Nat} {us : List (List Int)} {p11 : Option Addr} {c11 : Nat} {vs : List Value} {pl : Option Addr} {cl : Nat} {R0 : List (List Int)} {p9 : Option Addr} {c9 : Nat} {R : List (List Int)} (h : K11 w6 W own L nk p5 c5 us p11 c11 vs pl cl R0 p9 c9 R) (hb : Below W.heap.size W W') : K11 w6 W' own L nk p5 c5 us p11 c11 vs pl cl R0 p9 c9 R :=
  ⟨h.ch.trans (Ch.of_below hb _), h.bs.below hb, h.rs.below hb, h.lr.below hb, h.nw.below hb, h.m5, h.m11, h.ap⟩

theorem lawO_or {own : Nat → Nat} {lo hi k : Nat} (h : own k = lawM ∨ lo ≤ k) (hk : k < hi) : lawO own lo hi k = lawM := by
  unfold lawO
  split
  · rfl
  · rcases h with h | h
    · exact h
    · omega

theorem KR.save {w6 W : World} {own : Nat → Nat} {L nk : Nat} {us : List (List Int)} {vs : List Value} {pl : Option Addr} {cl : Nat} {R0 R : List (List Int)} {p5 : Option Addr} {c5 : Nat} {p11 : Option Addr} {c11 : Nat} {p9 : Option Addr} {c9 : Nat} (hv : vs.length = nk + 1) (hL : L ≤ w6.heap.size) (h2 : K11 w6 W own L nk p5 c5 us p11 c11 vs pl cl R0 p9 c9 R) : KR W (lawO own w6.heap.size W.heap.size) L (nk + 1) p5 c5 us p11 c11 (vs ++ [.slice p9 R.length c9]) p9 c9 R := by
  refine ⟨h2.bs, h2.rs, ?_, h2.nw.lowerB hL, fun x e h0 => lawO_or (h2.m5 x e h0) (h2.bs.ltC x e h0).2, fun x e h0 => lawO_or (h2.m11 x e h0) (h2.rs.ltC x e h0).2, fun x e h0 => lawO_or (Or.inr (h2.nw.ltC x e h0).1) (h2.nw.ltC x e h0).2, h2.ap⟩
  rw [List.getD_eq_getElem?_getD, List.getElem?_append_right (by omega), hv, Nat.sub_self]
  rfl

/-- The bases, behind an append. -/
structure K5 (w6 W : World) (own : Nat → Nat) (L nk : Nat) (p5 : Option Addr) (c5 : Nat) (us : List (List Int)) (pr : Option Addr) (cr : Nat) (vs : List Value) (pl : Option Addr) (cl : Nat) (R0 : List (List Int)) : Prop where
  ch : Ch (fun k => own k = lawM) w6 W
  bs : OwG 9 W L p5 (nk + 1 + 1) c5 (strs us)
  rs : OwG 49 W L pr (nk + 1) cr vs
  lr : OwG 9 W L pl R0.length cl (strs R0)
  m5 : ∀ x, p5 = some x → 0 < c5 → own x.block = lawM ∨ w6.heap.size ≤ x.block
  mr : ∀ x, pr = some x → 0 < cr → own x.block = lawM

theorem K5.below {w6 W W' : World} {own : Nat → Nat} {L nk : Nat} {p5 : Option Addr} {c5 : Nat} {us : List (List Int)} {pr : Option Addr} {cr : Nat} {vs : List Value} {pl : Option Addr} {cl : Nat} {R0 : List (List Int)} (h : K5 w6 W own L nk p5 c5 us pr cr vs pl cl R0) (hb : Below W.heap.size W W') : K5 w6 W' own L nk p5 c5 us pr cr vs pl cl R0 :=
  ⟨h.ch.trans (Ch.of_below hb _), h.bs.below hb, h.rs.below hb, h.lr.below hb, h.m5, h.mr⟩

/-- append(bases, text). -/
theorem app_bases {w6 V : World} {own : Nat → Nat} {L nk : Nat} {pb : Option Addr} {cb : Nat} {us : List (List Int)} {pr : Option Addr} {cr : Nat} {vs : List Value} {pl : Option Addr} {cl : Nat} {R0 : List (List Int)} (h : KR w6 own L nk pb cb us pr cr vs pl cl R0) (hL : L ≤ w6.heap.size) (hV : Below w6.heap.size w6 V) {b4 : Nat} {xs : List Int} (hc : V.cell? ⟨b4, 0, none⟩ = some (.string (strOfNums xs))) (hn : nk ≤ 1000) (ty : TypeId) :
    ∃ p5 c5 W, (Builtin.append_ #[49, 49] ty #[.slice pb (nk + 1) cb, .slice (some ⟨b4, 0, none⟩) 1 1]).run Try.prog V = .ok (.slice p5 (nk + 1 + 1) c5) W ∧ K5 w6 W own L nk p5 c5 (us ++ [xs]) pr cr vs pl cl R0 := by
  obtain ⟨i0, hi0, hz0, hz1, hz2⟩ := info_parts infoT
  have hk := h.below hV
  obtain ⟨p5, c5, W, hrun, hO, hg, hkt⟩ := run_appG (P := Try.prog) (d := 1) V 49 ty 9 i0 (.string ByteArray.empty) 16 Try.underlying49 hi0 hz0 hz1 hz2 rfl hk.bs hc rfl (by omega) (by unfold maxLen; omega) (Nat.le_trans hL hV.size)
  have hch : Ch (fun k => ∃ x, pb = some x ∧ 0 < cb ∧ k = x.block) V W := Grow.ch2 hg _ (fun x e h0 => ⟨x, e, h0, rfl⟩)
  have hch2 : Ch (fun k => own k = lawM) V W := hch.mono fun k _ h1 => by
    obtain ⟨x, e, h0, e2⟩ := h1
    rw [e2]; exact h.mb x e h0
  refine ⟨p5, c5, W, hrun, (Ch.of_below hV (fun k => own k = lawM)).then hch2 (fun j hj e => e), ?_, hk.rs.keptT hkt (by decide), hk.lr.chC hch (fun x e h0 ⟨y, e2, h0', e3⟩ => h.ap x y e e2 h0 h0' e3), fun x e h0 => ?_, h.mr⟩
  · have e : strs (us ++ [xs]) = strs us ++ [.string (strOfNums xs)] := by unfold strs; rw [List.map_append]; rfl
    rw [e]; exact hO
  · rcases hg.1 with ⟨e1, e2, _⟩ | ⟨_, h1⟩
    · exact Or.inl (h.mb x (by rw [← e1]; exact e) (by rw [← e2]; exact h0))
    · exact Or.inr (Nat.le_trans hV.size (h1 x e))

theorem infoL : (Try.prog.info? 49).map (fun i => (i.zero, i.size, i.bytes)) = some (some (.slice none 0 0), 1, 24) := by kernel_rfl

/-- append(reels, reel). -/
theorem app_reels {w6 V : World} {own : Nat → Nat} {L nk : Nat} {p5 : Option Addr} {c5 : Nat} {us : List (List Int)} {pr : Option Addr} {cr : Nat} {vs : List Value} {pl : Option Addr} {cl : Nat} {R0 R : List (List Int)} {p9 : Option Addr} {c9 : Nat} (h : K5 w6 V own L nk p5 c5 us pr cr vs pl cl R0) (hL : L ≤ w6.heap.size) (hw : OwG 9 V w6.heap.size p9 R.length c9 (strs R)) (hap : ∀ x y, p9 = some x → p5 = some y → 0 < c9 → 0 < c5 → x.block ≠ y.block) {b10 : Nat} (hc : V.cell? ⟨b10, 0, none⟩ = some (.slice p9 R.length c9)) (hn : nk ≤ 1000) (ty : TypeId) :
    ∃ p11 c11 W, (Builtin.append_ #[50, 50] ty #[.slice pr (nk + 1) cr, .slice (some ⟨b10, 0, none⟩) 1 1]).run Try.prog V = .ok (.slice p11 (nk + 1 + 1) c11) W ∧ K11 w6 W own L nk p5 c5 us p11 c11 vs pl cl R0 p9 c9 R := by
  obtain ⟨i0, hi0, hz0, hz1, hz2⟩ := info_parts infoL
  obtain ⟨p11, c11, W, hrun, hO, hg, hkt⟩ := run_appG (P := Try.prog) (d := 1) V 50 ty 49 i0 (.slice none 0 0) 24 Try.underlying50 hi0 hz0 hz1 hz2 rfl h.rs hc rfl (by omega) (by unfold maxLen; omega) (Nat.le_trans hL h.ch.size)
  have hch : Ch (fun k => ∃ x, pr = some x ∧ 0 < cr ∧ k = x.block) V W := Grow.ch2 hg _ (fun x e h0 => ⟨x, e, h0, rfl⟩)
  have hch2 : Ch (fun k => own k = lawM) V W := hch.mono fun k _ h1 => by
    obtain ⟨x, e, h0, e2⟩ := h1
    rw [e2]; exact h.mr x e h0
  refine ⟨p11, c11, W, hrun, h.ch.then hch2 (fun j hj e => e), h.bs.keptT hkt (by decide), hO, h.lr.keptT hkt (by decide), hw.keptT hkt (by decide), h.m5, fun x e h0 => ?_, hap⟩
  · rcases hg.1 with ⟨e1, e2, _⟩ | ⟨_, h1⟩
    · exact Or.inl (h.mr x (by rw [← e1]; exact e) (by rw [← e2]; exact h0))
    · exact Or.inr (Nat.le_trans h.ch.size (h1 x e))

/-- append(clone, text), in new memory. -/
theorem app_clone {w6 V : World} {p6 : Option Addr} {c6 b10 : Nat} {R : List (List Int)} {xs : List Int} (hV : Bl w6 V) (ho : OwG 9 V w6.heap.size p6 R.length c6 (strs R)) (hc : V.cell? ⟨b10, 0, none⟩ = some (.string (strOfNums xs))) (hn : R.length ≤ 1000000) (ty : TypeId) :
    ∃ p11 c11 W, (Builtin.append_ #[49, 49] ty #[.slice p6 R.length c6, .slice (some ⟨b10, 0, none⟩) 1 1]).run Try.prog V = .ok (.slice p11 (R.length + 1) c11) W ∧ Bl w6 W ∧ OwG 9 W w6.heap.size p11 (R.length + 1) c11 (strs (R ++ [xs])) := by
  obtain ⟨i0, hi0, hz0, hz1, hz2⟩ := info_parts infoT
  obtain ⟨p11, c11, W, hrun, hO, hg, _⟩ := run_appG (P := Try.prog) (d := 1) V 49 ty 9 i0 (.string ByteArray.empty) 16 Try.underlying49 hi0 hz0 hz1 hz2 rfl ho hc rfl (by omega) (by unfold maxLen; omega) (Bl.out' hV).size
  have hch : Ch (fun k => w6.heap.size ≤ k) V W := Grow.ch2 hg _ (fun x e h0 => (ho.ltC x e h0).1)
  refine ⟨p11, c11, W, hrun, (Bl.out' hV).trans (hch.below (Bl.out' hV).size (fun _ e => e)), ?_⟩
  have e : strs (R ++ [xs]) = strs R ++ [.string (strOfNums xs)] := by unfold strs; rw [List.map_append]; rfl
  rw [e]
  exact hO

/-- reels[last] = .. -/
theorem store_reel {w6 V : World} {own : Nat → Nat} {L nk : Nat} {pb : Option Addr} {cb : Nat} {us : List (List Int)} {pr : Option Addr} {cr : Nat} {vs : List Value} {pl : Option Addr} {cl : Nat} {R0 R : List (List Int)} {p11 : Option Addr} {c11 br or_ : Nat} (h : KR w6 own L nk pb cb us pr cr vs pl cl R0) (hp : pr = some ⟨br, or_, none⟩) (hV : Bl w6 V) (hw : OwG 9 V w6.heap.size p11 R.length c11 (strs R)) :
    (∃ u, V.cell? ⟨br, or_ + nk, none⟩ = some u) ∧ V.frozen? ⟨br, or_ + nk, none⟩ = false ∧ K13 w6 (V.setCell ⟨br, or_ + nk, none⟩ (.slice p11 R.length c11)) own L nk pb cb us pr cr vs p11 c11 R := by
  have hk := h.below (Bl.out' hV)
  obtain ⟨b, o, e1, h1, h2, h3⟩ := hk.rs.set6 (Nat.lt_succ_self nk) (.slice p11 R.length c11)
  rw [hp] at e1
  cases e1
  have hcap := h.rs.cap
  have hch := Ch.setCell V ⟨br, or_ + nk, none⟩ (.slice p11 R.length c11)
  have hbl : own br = lawM := h.mr _ hp (by omega)
  have hlt : br < w6.heap.size := (h.rs.ltC _ hp (by omega)).2
  have hch2 : Ch (fun k => own k = lawM) V (V.setCell ⟨br, or_ + nk, none⟩ (.slice p11 R.length c11)) := hch.mono fun k _ e => by
    have e3 : k = br := e
    rw [e3]; exact hbl
  refine ⟨⟨_, h1⟩, h2, (Ch.of_below (Bl.out' hV) (fun k => own k = lawM)).then hch2 (fun j hj e => e), hk.bs.chC hch (fun x e h0 e2 => hk.bs.neT hk.rs (by decide) x _ e hp h0 (by omega) e2), h3, hw.chC hch (fun x e h0 e2 => ?_)⟩
  · have h4 := (hw.ltC x e h0).1
    have e3 : x.block = br := e2
    omega

end Go.Proofs.Ytpjhadaiodnnaaa.M
end
