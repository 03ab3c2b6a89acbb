/-
  Own text: the walk of the law TagDigests.
-/
import Derived.Test.YtlmmidlegdmjpaaGRefOf3
import Derived.Test.YtlmmidlegdmjpaaGRefBad
import Derived.Test.YtlmmidlegdmjpaaGClone
import Derived.Test.YtlmmidlegdmjpaaOpen
namespace Go.Proofs.Ytlmmidlegdmjpaa.M
open Go.ChangeShapes Go.WideShapes Go.ChangeAt Go.RowKit

set_option maxRecDepth 20000 in
set_option maxHeartbeats 4000000 in
theorem digests_core (w : World) (kp : Option Addr) (kn kc : Nat) (kl : List Int) (hk : Rd .u8 w kp kn kc kl) (hkb : By kl) (p : Option Addr) (n c : Nat) (l : List Int) (hr : Rd .u8 w p n c l) (hby : By l) (hkn : kn ≤ 4096) (hn : n ≤ 4096)
    (D : List Int) (E : Int) (hlD : D.length = 16)
    (cO : ∀ W kp' kc' p' c', Rd .u8 W kp' kn kc' kl → Rd .u8 W p' n c' l → Calls Try.prog 8 #[.slice kp' kn kc', .slice p' n c'] W fun r w' => r = .returned (.tuple #[.agg (nums .u8 D), .int .i64 E]) ∧ Below W.heap.size W w')
    (cR : ∀ W kp' kc' p' c', Rd .u8 W kp' kn kc' kl → Rd .u8 W p' n c' l → Calls Try.prog 9 #[.slice kp' kn kc', .slice p' n c'] W fun r w' => r = .returned (.tuple #[.agg (nums .u8 D), .int .i64 E]) ∧ Below W.heap.size W w') :
    Calls Try.prog 3 #[.slice kp kn kc, .slice p n c] w fun e w' => e = .returned (.bool true) ∧ Below w.heap.size w w' := by
  have hd1 : decide ((4096 : Int) < (kn : Int)) = false := decide_eq_false (by omega)
  have hd2 : decide (4096 < kn) = false := decide_eq_false (by omega)
  have hd3 : decide ((4096 : Int) < (n : Int)) = false := decide_eq_false (by omega)
  have hd4 : decide (4096 < n) = false := decide_eq_false (by omega)
  have hi1 := info_nums .u8 D infoB hlD
  have hzD : (nums .u8 (List.replicate 16 0)).size = (nums .u8 D).size := by rw [nums_size, nums_size, hlD]; rfl
  have q1 := fun W => eql16 D D hlD hlD W
  rw [decide_eq_true rfl] at q1
  go_enter Try.func3, Try.ntmps3
  go_wp2_with fail
  refine (clone_any kp kn kc kl w hk (by omega)).mono ?_
  rintro e w1 ⟨kp2, kc2, rfl, hko, hb1⟩
  go_wp2_with fail
  refine (clone_any p n c l w1 (hr.below hb1) (by omega)).mono ?_
  rintro e w2 ⟨p2, c2, rfl, hlo, hb2⟩
  have hko2 := hko.rd.below hb2
  have hlo2 := hlo.rd
  have hbb2 := hb1.trans (hb2.mono hb1.size)
  clear hko hlo hb1 hb2
  go_wp2_with fail
  refine (cO _ _ _ _ _ hko2 hlo2).mono ?_
  rintro e w3 ⟨rfl, hb3⟩
  have hko3 := hko2.below hb3
  have hlo3 := hlo2.below hb3
  have hbb3 := hbb2.trans (hb3.mono hbb2.size)
  clear hko2 hlo2 hbb2 hb3 cO
  have hY : ArrI 25 .u8 (w3.alloc (.cells (nums .u8 (List.replicate 16 0)) 25)) w3.heap.size (List.replicate 16 0) := ArrI.new _ .u8 w3 _
  have hbt := (below_alloc w3 (.cells (nums .u8 (List.replicate 16 0)) 25)).trans (below_setRow _ w3.heap.size (nums .u8 D) (Nat.le_refl _))
  have hY5 := hY.setRow D
  rw [zero16] at hY hY5 hbt
  go_wp2_with (refine wpList_store_row rfl 25 _ _ rfl w3.heap.size (nums .u8 D) rfl rfl _ _ hY hi1 hzD (nums_one _ _) ?_)
  clear hY
  generalize (w3.alloc _).setRow w3.heap.size (nums .u8 D) = W5 at hY5 hbt ⊢
  have hko5 := hko3.below hbt
  have hlo5 := hlo3.below hbt
  have hbb5 := hbb3.trans (hbt.mono hbb3.size)
  generalize w3.heap.size = g7 at hY5 ⊢
  clear hko3 hlo3 hbb3 hbt
  refine (cR _ _ _ _ _ (hk.below hbb5) (hr.below hbb5)).mono ?_
  rintro e w6 ⟨rfl, hb6⟩
  have hko6 := hko5.below hb6
  have hlo6 := hlo5.below hb6
  have hY6 := hY5.below hb6
  have hbb6 := hbb5.trans (hb6.mono hbb5.size)
  clear hko5 hlo5 hbb5 hb6 hY5 cR
  have hX : ArrI 25 .u8 (w6.alloc (.cells (nums .u8 (List.replicate 16 0)) 25)) w6.heap.size (List.replicate 16 0) := ArrI.new _ .u8 w6 _
  have hbt := (below_alloc w6 (.cells (nums .u8 (List.replicate 16 0)) 25)).trans (below_setRow _ w6.heap.size (nums .u8 D) (Nat.le_refl _))
  have hX7 := hX.setRow D
  rw [zero16] at hX hX7 hbt
  have hY7 := hY6.below hbt
  have hko7 := hko6.below hbt
  have hlo7 := hlo6.below hbt
  have hbb7 := hbb6.trans (hbt.mono hbb6.size)
  have cE1 := fun W (hb : Below w.heap.size w W) (h : Rd .u8 W kp2 kn kc2 kl) => equal_same kp2 kp kn kc2 kn kc kl W h (hk.below hb) hkb
  have cE2 := fun W (hb : Below w.heap.size w W) (h : Rd .u8 W p2 n c2 l) => equal_same p2 p n c2 n c l W h (hr.below hb) hby
  clear hk hr hko6 hlo6 hbb6 hbt hY6
  go_wp2_with (first | refine wpList_store_row rfl 25 _ _ rfl w6.heap.size (nums .u8 D) rfl rfl _ _ hX hi1 hzD (nums_one _ _) ?_ | refine wpList_load_row rfl 25 _ rfl g7 rfl _ _ _ _ hY7 Try.underlying25 rfl hi1 ?_ | refine wpList_load_row rfl 25 _ rfl w6.heap.size rfl _ _ _ _ hX7 Try.underlying25 rfl hi1 ?_)
  clear hX
  generalize (w6.alloc _).setRow w6.heap.size (nums .u8 D) = W7 at hX7 hY7 hko7 hlo7 hbb7 ⊢
  refine (cE1 _ hbb7 hko7).mono ?_
  rintro e w8 ⟨rfl, rfl⟩
  go_wp2_with fail
  refine (cE2 _ hbb7 hlo7).mono ?_
  rintro e w9 ⟨rfl, rfl⟩
  go_wp2_with fail
  refine (awake_any _).mono ?_
  rintro e w10 ⟨rfl, hb10⟩
  have hbb10 := hbb7.trans (hb10.mono hbb7.size)
  go_wp2_with fail
  go_ret
  exact ⟨rfl, hbb10⟩

set_option maxRecDepth 20000 in
theorem digests_many1 (w : World) (kp : Option Addr) (kn kc : Nat) (p : Option Addr) (n c : Nat) (hn : (4096 : Int) < (kn : Int)) :
    Calls Try.prog 3 #[.slice kp kn kc, .slice p n c] w fun e w' => e = .returned (.bool true) ∧ Below w.heap.size w w' := by
  have cA := awake_any w
  have hd1 : decide ((4096 : Int) < (kn : Int)) = true := decide_eq_true hn
  go_enter Try.func3, Try.ntmps3
  go_wp2_with fail
  refine cA.mono ?_
  rintro e w1 ⟨rfl, hb⟩
  go_wp2_with fail
  go_ret
  exact ⟨rfl, hb⟩

set_option maxRecDepth 20000 in
theorem digests_many2 (w : World) (kp : Option Addr) (kn kc : Nat) (p : Option Addr) (n c : Nat) (hk : (kn : Int) ≤ 4096) (hn : (4096 : Int) < (n : Int)) :
    Calls Try.prog 3 #[.slice kp kn kc, .slice p n c] w fun e w' => e = .returned (.bool true) ∧ Below w.heap.size w w' := by
  have cA := awake_any w
  have hd1 : decide ((4096 : Int) < (kn : Int)) = false := decide_eq_false (by omega)
  have hd2 : decide ((4096 : Int) < (n : Int)) = true := decide_eq_true hn
  go_enter Try.func3, Try.ntmps3
  go_wp2_with fail
  refine cA.mono ?_
  rintro e w1 ⟨rfl, hb⟩
  go_wp2_with fail
  go_ret
  exact ⟨rfl, hb⟩

theorem walk_TagDigests (w : World) (kp : Option Addr) (kn kc : Nat) (kl : List Int) (hk : Rd .u8 w kp kn kc kl) (wk : ∀ x ∈ kl, (Lit.int .u8 x).wf = true) (p : Option Addr) (n c : Nat) (l : List Int) (hr : Rd .u8 w p n c l) (wl : ∀ x ∈ l, (Lit.int .u8 x).wf = true) :
    Calls Try.prog 3 #[.slice kp kn kc, .slice p n c] w fun e w' => e = .returned (.bool true) ∧ Below w.heap.size w w' := by
  by_cases hkn : kn ≤ 4096
  · by_cases hn : n ≤ 4096
    · by_cases h16 : kn = 16
      · subst h16
        exact digests_core w kp 16 kc kl hk (by_of_wf wk) p n c l hr (by_of_wf wl) hkn hn (digest kl l) 0 (digest_len _ _) (fun W kp' kc' p' c' h1 h2 => of_any kp' kc' kl p' n c' l W h1 (by_of_wf wk) h2 (by_of_wf wl)) (fun W kp' kc' p' c' h1 h2 => refof_any kp' kc' kl p' n c' l W h1 (by_of_wf wk) h2 (by_of_wf wl) (by omega))
      · exact digests_core w kp kn kc kl hk (by_of_wf wk) p n c l hr (by_of_wf wl) hkn hn (List.replicate 16 0) 1 rfl (fun W kp' kc' p' c' _ _ => of_bad kp' kn kc' p' n c' W h16) (fun W kp' kc' p' c' _ _ => refof_bad kp' kn kc' p' n c' W h16)
    · exact digests_many2 w kp kn kc p n c (by omega) (by omega)
  · exact digests_many1 w kp kn kc p n c (by omega)

end Go.Proofs.Ytlmmidlegdmjpaa.M
