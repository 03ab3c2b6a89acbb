/-
  Own text: slices.SortFunc of places of calls, by the order of versions.
-/
import Derived.Test.YtmfmjoibofadlaaOLay
import Derived.Test.YtmfmjoibofadlaaOFit
namespace Go.Proofs.Ytmfmjoibofadlaa.M
open Go.ChangeShapes Go.WideShapes Go.ChangeAt Go.RowKit Go.Shelf Go.Proofs Go.Sort
set_option linter.unusedSimpArgs false

theorem or4_lt (a b c d : Int) (x y p q : Nat) : or4 (cmpI a b) (cmpI (x : Int) (y : Int)) (cmpI c d) (cmpI (p : Int) (q : Int)) < 0 ↔ (a < b ∨ (a = b ∧ (x < y ∨ (x = y ∧ (c < d ∨ (c = d ∧ p < q)))))) := by
  unfold or4 cmpI
  by_cases h1 : a < b
  · rw [if_pos h1]; simp [h1]
  · rw [if_neg h1]
    by_cases h2 : b < a
    · rw [if_pos h2]; simp; omega
    · rw [if_neg h2]
      by_cases h3 : (x : Int) < (y : Int)
      · rw [if_pos h3]; simp; omega
      · rw [if_neg h3]
        by_cases h4 : (y : Int) < (x : Int)
        · rw [if_pos h4]; simp; omega
        · rw [if_neg h4]
          by_cases h5 : c < d
          · rw [if_pos h5]; simp; omega
          · rw [if_neg h5]
            by_cases h6 : d < c
            · rw [if_pos h6]; simp; omega
            · rw [if_neg h6]
              by_cases h7 : (p : Int) < (q : Int)
              · rw [if_pos h7]; simp; omega
              · rw [if_neg h7]
                by_cases h8 : (q : Int) < (p : Int)
                · rw [if_pos h8]; simp; omega
                · rw [if_neg h8]; simp; omega

theorem cfO_lt (L : List Lo) (i j : Nat) : cfO L i j < 0 ↔ lessO L i j := or4_lt _ _ _ _ _ _ _ _

/-- A place of n. -/
abbrev Ix (n : Nat) : Type := {i : Nat // i < n}

def encI {n : Nat} (i : Ix n) : Value := .int .i64 (i.1 : Int)

def cfI (L : List Lo) (n : Nat) (x y : Ix n) : Int := cfO L x.1 y.1

theorem cfI_lt (L : List Lo) (n : Nat) (x y : Ix n) : ltOf (cfI L n) x y = true ↔ lessO L x.1 y.1 := by
  unfold ltOf cfI
  rw [decide_eq_true_iff]
  exact cfO_lt _ _ _

theorem cfI_nlt (L : List Lo) (n : Nat) (x y : Ix n) : ltOf (cfI L n) x y = false ↔ ¬ lessO L x.1 y.1 := by rw [← cfI_lt, Bool.not_eq_true]

theorem lessO_tr {L : List Lo} {i j k : Nat} (h : lessO L i j) (h2 : lessO L j k) : lessO L i k := by
  unfold lessO at *
  omega

theorem lessO_tot {L : List Lo} {i j : Nat} (h : ¬ lessO L i j) (hne : i ≠ j) : lessO L j i := by
  unfold lessO at *
  omega

theorem swoI (L : List Lo) (n : Nat) : SWO (ltOf (cfI L n)) where
  irrefl x := (cfI_nlt L n x x).2 fun h => lessO_irr h
  trans x y z h k := (cfI_lt L n x z).2 (lessO_tr ((cfI_lt L n x y).1 h) ((cfI_lt L n y z).1 k))
  ntrans x y z h k := (cfI_nlt L n x z).2 (by
    have h1 := (cfI_nlt L n x y).1 h
    have h2 := (cfI_nlt L n y z).1 k
    intro h3
    by_cases e : x.1 = y.1
    · rw [e] at h3; exact h2 h3
    · exact h2 (lessO_tr (lessO_tot h1 e) h3))

theorem less_enters : ∀ args w, (callFunc 38 args).run Try.prog w = .ok (.enter 38 args) w := enters_of Try.func38 (by kernel_rfl) rfl

theorem sw_ch {α : Type} [Inhabited α] (enc : α → Value) (w : World) (blk off m : Nat) (dk : Array α) (os : Array Obj) : Ch (fun k => k = blk) w (sortWorld enc w blk off m dk os) := by
  unfold sortWorld
  refine ⟨rfl, rfl, rfl, by simp [grow, putRow, mapBlock, ahead], fun k hk hne => ?_⟩
  rw [Go.Sort.heap_grow_old _ _ (by simpa [putRow, mapBlock, ahead] using hk)]
  have : blk ≠ k := fun e => hne e.symm
  simp [putRow, mapBlock, ahead, Array.getElem?_modify, this]

theorem OwS.free {k : IntKind} {e : TypeId} {w : World} {B g n c : Nat} {xs : List Int} (h : OwS k e w B (some ⟨g, 0, none⟩) n c xs) (i : Nat) : w.frozen? ⟨g, i, none⟩ = false := by
  rcases h.2 with ⟨hv, _⟩ | ⟨g', cap, cur, hv, hg, hh, hc2, hm2, hs2, ht2⟩
  · cases hv
  · injection hv with e1 e2 e3
    injection e1 with e1
    injection e1 with e1
    subst e1
    exact At.free (t := e) hh i

section
variable {n : Nat} [Inhabited (Ix n)]

theorem laysI {w : World} {g : Nat} {p : Option Addr} {c : Nat} {L : List Lo} (hG : At 22 w g #[.slice p n c]) (hr : RdO w p n c L) {blk : Nat} (hg : g ≠ blk) (hp : ∀ a, p = some a → a.block ≠ blk) (size : Nat) :
    CmpLays1 Try.prog 38 #[.pointer (some ⟨g, 0, none⟩)] (encI (n := n)) (cfI L n) blk 0 size w := fun m os dk _ x y => by
  have hc := sw_ch (encI (n := n)) w blk 0 m dk os
  have hG2 : At 22 (sortWorld (encI (n := n)) w blk 0 m dk os) g #[.slice p n c] := (hc.block g (At.lt hG) hg).trans hG
  have hr2 := hr.ch0 hc fun _ a ha e => hp a ha e
  exact (less_any hG2 hr2 x.2 y.2).mono fun _ _ h => ⟨h.1, h.2.grown⟩

theorem sortO_any {w : World} {g : Nat} {p : Option Addr} {c : Nat} {L : List Lo} (hG : At 22 w g #[.slice p n c]) (hr : RdO w p n c L) {B blk m d : Nat} {xs : List Nat} (ho : OwS .i64 3 w B (some ⟨blk, 0, none⟩) m d (xs.map fun i : Nat => (i : Int))) (hx : ∀ i ∈ xs, i < n) (hm : m ≤ 1000) (hg : g ≠ blk) (hp : ∀ a, p = some a → a.block ≠ blk) :
    Calls Try.prog 37 #[.slice (some ⟨blk, 0, none⟩) m d, .func (.func 38) #[] #[.pointer (some ⟨g, 0, none⟩)]] w fun e w' => e = .returned (.tuple #[]) ∧ ∃ ys : List Nat, ys.Perm xs ∧ ys.Pairwise (fun i j => ¬ lessO L j i) ∧ Rd .i64 w' (some ⟨blk, 0, none⟩) m d (ys.map fun i : Nat => (i : Int)) ∧ Ch (fun k => k = blk) w w' := by
  have hlen : xs.length = m := by have := ho.len; simpa using this
  have hblk := (ho.lt rfl).2
  obtain ⟨D, hD⟩ : ∃ D : List (Ix n), D.map (fun i => i.1) = xs := by
    refine ⟨xs.pmap (fun i h => ⟨i, h⟩) hx, ?_⟩
    rw [List.map_pmap]
    simp
  have hDl : D.toArray.size = m := by rw [← hlen, ← hD]; simp
  have hget : ∀ j, j < m → D.toArray[j]! = D.toArray.getD j default := fun j hj => by simp [Array.getD, hDl, hj]
  have hval : ∀ j, j < m → (((D.toArray[j]!).1 : Nat) : Int) = (xs.map fun i : Nat => (i : Int)).getD j 0 := fun j hj => by
    have hj2 : j < D.length := by rw [← hDl] at hj; simpa using hj
    rw [getElem!_pos D.toArray j (by simpa using hj2), ← hD, List.getD_eq_getElem?_getD, List.map_map, List.getElem?_map, List.getElem?_eq_getElem hj2]
    rfl
  have hH : Holds (encI (n := n)) w blk 0 D.toArray := fun j hj => by
    rw [hDl] at hj
    obtain ⟨b, o, e, hc⟩ := ho.rd.cells (by omega)
    cases e
    refine ⟨?_, by rw [Nat.zero_add]; exact ho.free j⟩
    rw [hc j hj]
    unfold encI
    rw [hval j hj]
  have hS := Any.slices_SortFunc laysS (encI (n := n)) (fun x => by unfold encI; rfl) (cfI L n) (swoI L n) 38 #[.pointer (some ⟨g, 0, none⟩)] blk 0 d D.toArray w less_enters (laysI hG hr hg hp _) hH hblk (by rw [hDl]; omega)
  rw [hDl] at hS
  refine hS.mono ?_
  rintro e w' ⟨he, d', q, os, hpm, hs, rfl⟩
  have hsz : d'.size = m := by have := hpm.1; rw [hDl] at this; exact this
  have hH2 := holds_sortWorld (encI (n := n)) w blk 0 q D.toArray d' os hblk hH (by rw [hsz, hDl])
  have hperm : d'.toList.Perm D := by
    have h3 := hpm.2.2
    have e1 : d'.extract 0 m = d' := by rw [← hsz]; exact Array.extract_size
    have e2 : D.toArray.extract 0 m = D.toArray := by rw [← hDl]; exact Array.extract_size
    rw [e1, e2] at h3
    simpa using h3
  refine ⟨he, d'.toList.map (fun i => i.1), ?_, ?_, ⟨?_, ho.rd.cap, (fun h => by cases h), fun _ => ⟨blk, 0, rfl, fun i hi => ?_⟩⟩, sw_ch _ _ _ _ _ _ _⟩
  · rw [← hD]; exact hperm.map _
  · rw [List.pairwise_map, List.pairwise_iff_getElem]
    intro i j hi hj hij
    have hi' : i < d'.size := by simpa using hi
    have hj' : j < d'.size := by simpa using hj
    have h5 := hs i j (Nat.zero_le _) hij (by omega)
    rw [getElem!_pos d' i hi', getElem!_pos d' j hj', cfI_nlt] at h5
    simpa using h5
  · simp [hsz]
  · have h6 := (hH2 i (by omega)).1
    rw [h6]
    unfold encI
    have hi' : i < d'.size := by omega
    rw [getElem!_pos d' i hi', List.getD_eq_getElem?_getD, List.map_map, List.getElem?_map, Array.getElem?_toList, Array.getElem?_eq_getElem hi']
    rfl

end

end Go.Proofs.Ytmfmjoibofadlaa.M
