/-
  Own text: what is asked of a tape, in one condition; a clone of its disk; what short tells of each call.
-/
import Derived.Test.YtpjhadaiodnnaaaECl2
import Derived.Test.YtpjhadaiodnnaaaTShort
import Derived.Test.YtpjhadaiodnnaaaTAwake
namespace Go.Proofs.Ytpjhadaiodnnaaa.M
open Go.ChangeShapes Go.WideShapes Go.ChangeAt Go.RowKit
set_option linter.unusedSimpArgs false

theorem Base_S (w : World) (L a g gt : Nat) (m : PD) (t : TP) (hT : TSo w L a g gt m t) (hl : t.r.base.length ≤ 1099511627776) :
    Calls Try.prog 30 #[.pointer (some ⟨gt, 0, none⟩)] w fun e w' => (∃ p' c', e = .returned (.slice p' t.r.base.length c') ∧ Rd .u8 w' p' t.r.base.length c' t.r.base ∧ (∀ x, p' = some x → 0 < t.r.base.length → w.heap.size ≤ x.block)) ∧ Below w.heap.size w w' := by
  obtain ⟨own, d, pb, nb, cb, pr, cr, vs, Bv, h1, h2, h3, h4, h5⟩ := hT
  have hn := h2.bas.len
  have hb := TBase_ok w gt g pb nb cb _ (h2.blk.cell 0) (h2.blk.cell 4) h2.bas (by omega)
  rw [← hn] at hb
  refine hb.mono ?_
  rintro e w' ⟨⟨p', c', rfl, hO⟩, hb⟩
  exact ⟨⟨p', c', rfl, hO.rd, fun x e h0 => (hO.ltC' x e h0).1⟩, hb⟩

theorem Recs_S (w : World) (L a g gt : Nat) (m : PD) (t : TP) (hT : TSo w L a g gt m t) (hfew : t.r.recs.length ≤ 1099511627776) (hrec : ∀ d ∈ t.r.recs, d.length ≤ 1099511627776) :
    Calls Try.prog 31 #[.pointer (some ⟨gt, 0, none⟩)] w fun e w' => (∃ p' c', e = .returned (.slice p' t.r.recs.length c') ∧ RdV w' p' t.r.recs.length c' (strs t.r.recs) ∧ (∀ x, p' = some x → 0 < t.r.recs.length → w.heap.size ≤ x.block)) ∧ Below w.heap.size w w' := by
  obtain ⟨own, d, pb, nb, cb, pr, cr, vs, Bv, h1, h2, h3, h4, h5⟩ := hT
  refine (records_any w gt g pr _ cr vs t.r.recs (h2.blk.cell 0) (h2.blk.cell 5) h2.rcs h2.sls rfl hfew (all_getD hrec)).mono ?_
  rintro e w' ⟨⟨p', c', rfl, hO⟩, hb⟩
  exact ⟨⟨p', c', rfl, hO.rd, fun x e h0 => (hO.ltC x e (Nat.lt_of_lt_of_le h0 hO.cap)).1⟩, hb⟩

/-- Texts of bytes. -/
def txb (xss : List (List Int)) : List ByteArray := xss.map strOfNums

theorem strs_txb (xss : List (List Int)) : strs xss = txt (txb xss) := by
  unfold strs txt txb
  rw [List.map_map]
  rfl

theorem Clone_S (w : World) (L a b g : Nat) (m : PD) (s : Nat) (hD : DSt w L a g m) (hm : m.ok s) (hs : s ≤ 274877906944) :
    Calls Try.prog 29 #[.pointer (some ⟨g, 0, none⟩)] w fun e w' => ∃ gc, e = .returned (.pointer (some ⟨gc, 0, none⟩)) ∧ DSt w' L b gc m ∧ Below w.heap.size w w' := by
  obtain ⟨own, d, hS⟩ := hD
  refine (Clone_any w L own a b g d m s hS.da hm (by omega) hS.lw).mono ?_
  rintro e w' ⟨gc, own2, d2, rfl, h1, h2, h3, h4, h5, h6⟩
  exact ⟨gc, rfl, ⟨own2, d2, h3, Nat.le_trans hS.lw h6.size, Nat.le_trans hS.lw h1, fun k hk => (h4 k (Nat.lt_of_lt_of_le hk hS.lw)).trans (hS.low k hk)⟩, h6⟩

theorem sz_each {ls : List Tv} : ∀ k, szT ls k ≤ 16384 → ∀ j, j < k → (ls.getD j .z0).bl ≤ 16384 ∧ (ls.getD j .z0).kl ≤ 16384 ∧ (ls.getD j .z0).ll ≤ 4096
  | 0, _, _, h => absurd h (Nat.not_lt_zero _)
  | k + 1, h, j, hj => by
    have h' : szT ls k + (min (ls.getD k .z0).bl 16385 + min (ls.getD k .z0).kl 16385 + lsz (ls.getD k .z0).l (ls.getD k .z0).ll) ≤ 16384 := h
    by_cases e : j = k
    · subst e
      have := lsz_ge (ls.getD j .z0).l (ls.getD j .z0).ll
      omega
    · exact sz_each (ls := ls) k (by omega) j (by omega)

theorem tot_each {LL : List (List Tv)} : ∀ k, totT LL k ≤ 16384 → ∀ j, j < k → szT (LL.getD j []) (LL.getD j []).length ≤ 16384 ∧ (LL.getD j []).length ≤ cntT LL k
  | 0, _, _, h => absurd h (Nat.not_lt_zero _)
  | k + 1, h, j, hj => by
    have h' : totT LL k + szT (LL.getD k []) (LL.getD k []).length ≤ 16384 := h
    have e : cntT LL (k + 1) = cntT LL k + (LL.getD k []).length := rfl
    by_cases ej : j = k
    · subst ej; omega
    · have := tot_each (LL := LL) k (by omega) j (by omega)
      omega

theorem mq1_ok : mq1.ok 1000 := ⟨by decide, by decide, by decide +kernel, by decide +kernel, by decide +kernel, by decide +kernel⟩

theorem mq1_cal : Cal mq1 := ⟨rfl, rfl⟩

theorem mq1_liv : Liv mq1 ⟨0, 0, ⟨1, [], []⟩⟩ :=
  ⟨by decide, by decide, ⟨Nat.zero_le _, By.nil⟩, fun _ h => (by cases h), ⟨0, Nat.le_refl _, Nat.zero_le _, by kernel_rfl⟩, by
    show (ldR []).1.gen < 1
    rw [ldR_nil]
    decide, by unfold By; decide +kernel⟩

end Go.Proofs.Ytpjhadaiodnnaaa.M
