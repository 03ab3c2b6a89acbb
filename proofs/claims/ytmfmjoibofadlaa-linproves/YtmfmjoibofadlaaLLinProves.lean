/-
  Own text: the walk of LinProves.
-/
import Derived.Test.YtmfmjoibofadlaaOAw
import Derived.Test.YtmfmjoibofadlaaORis
namespace Go.Proofs.Ytmfmjoibofadlaa.M
open Go.ChangeShapes Go.WideShapes Go.ChangeAt Go.RowKit
set_option linter.unusedSimpArgs false

theorem no_v2 {o : Lo} (h : ¬ Lo.no o = true) : Vf o.v := by
  have h1 := no_v h
  unfold Lo.no at h
  simp at h
  unfold Vf
  simp [Lit.wf]
  exact ⟨by show (-9223372036854775808 : Int) ≤ _; omega, by show _ ≤ (9223372036854775807 : Int); omega⟩

theorem rightO_vf {L : List Lo} (h : rightO L = 0) (k : Nat) (hk : k < L.length) : Vf (L.getD k .z0).v := by
  unfold rightO at h
  split at h
  · cases h
  · split at h
    · cases h
    · rename_i _ hn
      have h2 : L.any Lo.no = false := by simpa using hn
      exact no_v2 (List.any_eq_false.1 h2 (L.getD k .z0) (by rw [List.getD_eq_getElem?_getD, List.getElem?_eq_getElem hk]; exact List.getElem_mem _))

set_option maxRecDepth 20000 in
set_option maxHeartbeats 2000000 in
theorem walk_LinProves (w : World) (p : Option Addr) (n c : Nat) (L : List Lo) (hr : RdO w p n c L) :
    Calls Try.prog 6 #[.slice p n c] w fun e w' => e = .returned (.bool true) ∧ Below w.heap.size w w' := by
  have hA := fun W => awake_any W
  by_cases h1 : 60 < n
  · have hi : (60 : Int) < (n : Int) := by omega
    clear hr
    go_enter Try.func6, Try.ntmps6
    go_wp2_with fail
    refine (hA _).mono ?_
    rintro e w1 ⟨rfl, hb1⟩
    clear hA
    go_wp2_with fail
    go_ret
    exact ⟨rfl, hb1⟩
  · have hi : ¬ (60 : Int) < (n : Int) := by omega
    have hLn : L.length = n := hr.len
    have c1 := right_any p n c L w hr
    by_cases hR : rightO L = 0
    · rw [hR] at c1
      have h24 := rightO_len hR
      have c2 := fun W (hW : Below w.heap.size w W) => versions_any p n c L W (hr.below hW) (by omega) (fun i hi => rightO_vf hR i (by omega)) fun V hV => rising_any p n c L V (hr.below (hW.trans (hV.mono hW.size))) (by omega) hR
      have c3 := fun W (hW : Below w.heap.size w W) => by_any p n c L W (hr.below hW) (by omega)
      have HR : Hid (rightO L = 0) := hR
      have HRD : Hid (RdO w p n c L) := hr
      clear hR hr
      go_enter Try.func6, Try.ntmps6
      go_wp2_with fail
      refine c1.mono ?_
      rintro e w1 ⟨rfl, hb1⟩
      have c22 := c2 w1 hb1
      clear c1 c2
      go_wp2_with fail
      refine c22.mono ?_
      rintro e w2 ⟨b, rfl, hb, hb2⟩
      have hbb2 := hb1.trans (hb2.mono hb1.size)
      clear c22 hb1 hb2
      cases b with
      | false =>
        clear hb c3
        go_wp2_with fail
        refine (hA _).mono ?_
        rintro e w3 ⟨rfl, hb3⟩
        clear hA
        go_wp2_with fail
        go_ret
        exact ⟨rfl, hbb2.trans (hb3.mono hbb2.size)⟩
      | true =>
        obtain ⟨e1, e2, e3⟩ := hb rfl
        have c33 := c3 w2 hbb2
        clear hb c3
        go_wp2_with fail
        refine c33.mono ?_
        rintro e w3 ⟨q, d, ys, rfl, hB, hrd, hb3, _⟩
        have hbb3 := hbb2.trans (hb3.mono hbb2.size)
        obtain ⟨f1, f2⟩ := proves_fit HR.out hB (expl_of hB e1 e2 e3)
        have hyl : ys.length ≤ 1099511627776 := by
          have hsub : ys.length ≤ L.length := by
            have hnd : ys.Nodup := List.Pairwise.imp (fun {a b} (h : lessO L a b) (e : a = b) => lessO_irr (L := L) (i := b) (by rw [e] at h; exact h)) hB.srt
            have hss : ys ⊆ List.range L.length := fun i hi => List.mem_range.2 ((hB.mem i).1 hi).1
            have := List.Nodup.length_le_of_subset hnd hss
            simpa using this
          omega
        have c4 := fits_any q ys.length d (ys.map fun i : Nat => (i : Int)) p n c L w3 hrd hyl (HRD.out.below hbb3)
        have c5 := fun W (hW : Below w3.heap.size w3 W) => refFits_any q ys.length d (ys.map fun i : Nat => (i : Int)) p n c L W (hrd.below hW) hyl (HRD.out.below (hbb3.trans (hW.mono hbb3.size)))
        rw [f1] at c4
        rw [f2] at c5
        clear c33 e1 e2 e3 hB hrd hb3 f1 f2 HR HRD
        go_wp2_with fail
        refine c4.mono ?_
        rintro e w4 ⟨rfl, hb4⟩
        have c55 := c5 w4 hb4
        have hbb4 := hbb3.trans (hb4.mono hbb3.size)
        clear c4 c5 hb4
        go_wp2_with fail
        refine c55.mono ?_
        rintro e w5 ⟨rfl, hb5⟩
        have hbb5 := hbb4.trans (hb5.mono hbb4.size)
        clear c55
        go_wp2_with fail
        refine (hA _).mono ?_
        rintro e w6 ⟨rfl, hb6⟩
        clear hA
        go_wp2_with fail
        go_ret
        exact ⟨rfl, hbb5.trans (hb6.mono hbb5.size)⟩
    · have hz : (rightO L != 0) = true := by simpa using hR
      generalize rightO L = ro at *
      clear hR hr
      go_enter Try.func6, Try.ntmps6
      go_wp2_with fail
      refine c1.mono ?_
      rintro e w1 ⟨rfl, hb1⟩
      clear c1
      go_wp2_with fail
      refine (hA _).mono ?_
      rintro e w2 ⟨rfl, hb2⟩
      clear hA
      go_wp2_with fail
      go_ret
      exact ⟨rfl, hb1.trans (hb2.mono hb1.size)⟩

end Go.Proofs.Ytmfmjoibofadlaa.M
