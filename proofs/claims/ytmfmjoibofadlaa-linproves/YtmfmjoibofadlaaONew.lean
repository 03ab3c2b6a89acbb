/-
  Own text: a search is made: the contract of newSearch, where there is one write at most.
-/
import Derived.Test.YtmfmjoibofadlaaOSort
namespace Go.Proofs.Ytmfmjoibofadlaa.M
open Go.ChangeShapes Go.WideShapes Go.ChangeAt Go.RowKit Go.ChangeMaps Go.MapKept Go.Maps
set_option linter.unusedSimpArgs false

/-- The places of the writes among the first k, and of the answered reads. -/
def wrF (L : List Lo) : Nat → List Int
  | 0 => []
  | k + 1 => if (L.getD k .z0).w = true then wrF L k ++ [(k : Int)] else wrF L k

def rdF (L : List Lo) : Nat → List Int
  | 0 => []
  | k + 1 => if (L.getD k .z0).w = true then rdF L k else if (L.getD k .z0).ans = true then rdF L k ++ [(k : Int)] else rdF L k

theorem wrF_in (L : List Lo) : ∀ k, ∀ x ∈ wrF L k, ∃ j : Nat, x = (j : Int) ∧ j < k
  | 0, x, h => by cases h
  | k + 1, x, h => by
    unfold wrF at h
    split at h
    · rcases List.mem_append.1 h with h | h
      · obtain ⟨j, e, hj⟩ := wrF_in L k x h; exact ⟨j, e, by omega⟩
      · exact ⟨k, List.mem_singleton.1 h, by omega⟩
    · obtain ⟨j, e, hj⟩ := wrF_in L k x h; exact ⟨j, e, by omega⟩

theorem rdF_in (L : List Lo) : ∀ k, ∀ x ∈ rdF L k, ∃ j : Nat, x = (j : Int) ∧ j < k
  | 0, x, h => by cases h
  | k + 1, x, h => by
    unfold rdF at h
    split at h
    · obtain ⟨j, e, hj⟩ := rdF_in L k x h; exact ⟨j, e, by omega⟩
    · split at h
      · rcases List.mem_append.1 h with h | h
        · obtain ⟨j, e, hj⟩ := rdF_in L k x h; exact ⟨j, e, by omega⟩
        · exact ⟨k, List.mem_singleton.1 h, by omega⟩
      · obtain ⟨j, e, hj⟩ := rdF_in L k x h; exact ⟨j, e, by omega⟩

theorem rdF_len (L : List Lo) : ∀ k, (rdF L k).length ≤ k
  | 0 => Nat.le_refl _
  | k + 1 => by
    have := rdF_len L k
    unfold rdF
    split
    · omega
    · split
      · rw [List.length_append]; simp; omega
      · omega

theorem wrF_len (L : List Lo) : ∀ k, (wrF L k).length ≤ k
  | 0 => Nat.le_refl _
  | k + 1 => by
    have := wrF_len L k
    unfold wrF
    split
    · rw [List.length_append]; simp; omega
    · omega

/-- A search in the making, in block h: two rows of their own, apart. -/
structure SW (w2 : World) (h : Nat) (p : Option Addr) (n c mu : Nat) (q : Option Addr) (mb : Nat) (R S : List Int) (rp : Option Addr) (rn rc : Nat) (wp : Option Addr) (wn wc : Nat) (W : World) : Prop where
  ch : Ch (fun k => k = h) w2 W
  cs : At 59 W h #[.slice p n c, .int .u64 mu, .slice q n n, .slice rp rn rc, .slice wp wn wc, .map (some mb), .slice none 0 0]
  rds : OwS .i64 3 W w2.heap.size rp rn rc R
  wrs : OwS .i64 3 W w2.heap.size wp wn wc S
  hB : h < w2.heap.size
  apart : ∀ a b, rp = some a → wp = some b → a.block ≠ b.block

theorem SW.below {w2 W W' : World} {h : Nat} {p : Option Addr} {n c mu : Nat} {q : Option Addr} {mb : Nat} {R S : List Int} {rp : Option Addr} {rn rc : Nat} {wp : Option Addr} {wn wc : Nat} (H : SW w2 h p n c mu q mb R S rp rn rc wp wn wc W) (hb : Below W.heap.size W W') : SW w2 h p n c mu q mb R S rp rn rc wp wn wc W' :=
  ⟨H.ch.trans (Ch.of_below (hb.mono (by have := H.ch.size; first | omega | exact Nat.le_refl _)) _), H.cs.below hb, H.rds.same fun a ha => hb.block _ (H.rds.lt ha).2, H.wrs.same fun a ha => hb.block _ (H.wrs.lt ha).2, H.hB, H.apart⟩

/-- One more read. -/
theorem SW.read {w2 W W1 : World} {h : Nat} {p : Option Addr} {n c mu : Nat} {q : Option Addr} {mb : Nat} {R S R1 : List Int} {rp p1 : Option Addr} {rn rc n1 c1 : Nat} {wp : Option Addr} {wn wc : Nat} (H : SW w2 h p n c mu q mb R S rp rn rc wp wn wc W) (hg : Grow W W1 rp rc p1 c1) (ho : OwS .i64 3 W1 w2.heap.size p1 n1 c1 R1) :
    SW w2 h p n c mu q mb R1 S p1 n1 c1 wp wn wc (W1.setCell ⟨h, 3, none⟩ (.slice p1 n1 c1)) := by
  have hB := H.hB
  have hc1 := hg.ch (fun k => ∃ a, rp = some a ∧ a.block = k) (fun a ha => ⟨a, ha, rfl⟩)
  have hc2 := Ch.setCell W1 ⟨h, 3, none⟩ (.slice p1 n1 c1)
  have hnr : ¬ ∃ a, rp = some a ∧ a.block = h := by
    rintro ⟨a, ha, e⟩
    have := (H.rds.lt ha).1; omega
  have hcs1 : At 59 W1 h #[.slice p n c, .int .u64 mu, .slice q n n, .slice rp rn rc, .slice wp wn wc, .map (some mb), .slice none 0 0] := (hc1.block h H.cs.lt hnr).trans H.cs
  refine ⟨?_, hcs1.setC 3 _, ho.ch hc2 fun a ha e => ?_, (H.wrs.ch hc1 fun a ha => ?_).ch hc2 fun a ha e => ?_, hB, fun a b ha hb => ?_⟩
  · refine ⟨hc2.os.trans (hc1.os.trans H.ch.os), hc2.tape.trans (hc1.tape.trans H.ch.tape), hc2.output.trans (hc1.output.trans H.ch.output), Nat.le_trans H.ch.size (Nat.le_trans hc1.size hc2.size), fun j hj hn => ?_⟩
    have hj1 := Nat.lt_of_lt_of_le hj H.ch.size
    rw [hc2.block j (Nat.lt_of_lt_of_le hj1 hc1.size) hn, hc1.block j hj1 (by rintro ⟨a, ha, e⟩; have := (H.rds.lt ha).1; omega), H.ch.block j hj hn]
  · have e1 : a.block = h := e
    have := (ho.lt ha).1; omega
  · rintro ⟨b, hb, e⟩; exact H.apart b a hb ha e
  · have e1 : a.block = h := e
    have := (H.wrs.lt ha).1; omega
  · rcases hg with ⟨e, _, _⟩ | ⟨_, h1⟩
    · exact H.apart a b (e ▸ ha) hb
    · have := h1 a ha; have := (H.wrs.lt hb).2; omega

/-- One more write. -/
theorem SW.write {w2 W W1 : World} {h : Nat} {p : Option Addr} {n c mu : Nat} {q : Option Addr} {mb : Nat} {R S S1 : List Int} {rp p1 : Option Addr} {rn rc n1 c1 : Nat} {wp : Option Addr} {wn wc : Nat} (H : SW w2 h p n c mu q mb R S rp rn rc wp wn wc W) (hg : Grow W W1 wp wc p1 c1) (ho : OwS .i64 3 W1 w2.heap.size p1 n1 c1 S1) :
    SW w2 h p n c mu q mb R S1 rp rn rc p1 n1 c1 (W1.setCell ⟨h, 4, none⟩ (.slice p1 n1 c1)) := by
  have hB := H.hB
  have hc1 := hg.ch (fun k => ∃ a, wp = some a ∧ a.block = k) (fun a ha => ⟨a, ha, rfl⟩)
  have hc2 := Ch.setCell W1 ⟨h, 4, none⟩ (.slice p1 n1 c1)
  have hnr : ¬ ∃ a, wp = some a ∧ a.block = h := by
    rintro ⟨a, ha, e⟩
    have := (H.wrs.lt ha).1; omega
  have hcs1 : At 59 W1 h #[.slice p n c, .int .u64 mu, .slice q n n, .slice rp rn rc, .slice wp wn wc, .map (some mb), .slice none 0 0] := (hc1.block h H.cs.lt hnr).trans H.cs
  refine ⟨?_, hcs1.setC 4 _, (H.rds.ch hc1 fun a ha => ?_).ch hc2 fun a ha e => ?_, ho.ch hc2 fun a ha e => ?_, hB, fun a b ha hb => ?_⟩
  · refine ⟨hc2.os.trans (hc1.os.trans H.ch.os), hc2.tape.trans (hc1.tape.trans H.ch.tape), hc2.output.trans (hc1.output.trans H.ch.output), Nat.le_trans H.ch.size (Nat.le_trans hc1.size hc2.size), fun j hj hn => ?_⟩
    have hj1 := Nat.lt_of_lt_of_le hj H.ch.size
    rw [hc2.block j (Nat.lt_of_lt_of_le hj1 hc1.size) hn, hc1.block j hj1 (by rintro ⟨a, ha, e⟩; have := (H.wrs.lt ha).1; omega), H.ch.block j hj hn]
  · rintro ⟨b, hb, e⟩; exact H.apart a b ha hb e.symm
  · have e1 : a.block = h := e
    have := (H.rds.lt ha).1; omega
  · have e1 : a.block = h := e
    have := (ho.lt ha).1; omega
  · rcases hg with ⟨e, _, _⟩ | ⟨_, h1⟩
    · exact H.apart a b ha (e ▸ hb)
    · have := h1 b hb; have := (H.rds.lt ha).2; omega

end Go.Proofs.Ytmfmjoibofadlaa.M
