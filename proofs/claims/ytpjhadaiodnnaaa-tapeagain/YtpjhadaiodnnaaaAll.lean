/-
  Own text: all records with which bytes begin, in plain words, and the contract of the program's All.
-/
import Derived.Test.YtpjhadaiodnnaaaOpenC
import Derived.Test.YtpjhadaiodnnaaaEq
import Derived.Test.YtpjhadaiodnnaaaMemV
namespace Go.Proofs.Ytpjhadaiodnnaaa.M
open Go.ChangeShapes Go.WideShapes Go.ChangeAt Go.RowKit

/-- All records, one behind the other, and how many bytes these have. -/
def allF : Nat → List Int → List (List Int) × Nat
  | 0, _ => ([], 0)
  | f + 1, xs => if (openR xs).2.2 = 0 then ((openR xs).1 :: (allF f (xs.drop (openR xs).2.1)).1, (openR xs).2.1 + (allF f (xs.drop (openR xs).2.1)).2) else ([], 0)

def allR (xs : List Int) : List (List Int) × Nat := allF (xs.length + 1) xs

theorem openR_room {xs : List Int} (hb : By xs) (h : (openR xs).2.2 = 0) : 5 ≤ (openR xs).2.1 ∧ (openR xs).2.1 ≤ xs.length ∧ By (openR xs).1 ∧ (openR xs).1.length ≤ 8192 := by
  obtain ⟨d, rest, e, h1, h2, h3⟩ := openR_form hb h
  have hl := congrArg List.length h3
  rw [List.length_append] at hl
  have hp := length_sealL d
  have hq := putL_pos d.length
  rw [e]
  exact ⟨by show 5 ≤ (sealL d).length; omega, by show (sealL d).length ≤ _; omega, h2, h1⟩

theorem openR_bad {xs : List Int} (h : (openR xs).2.2 ≠ 0) : (openR xs).1 = [] ∧ (openR xs).2.1 = 0 := by
  unfold openR at h ⊢
  split
  · exact ⟨rfl, rfl⟩
  · split
    · exact ⟨rfl, rfl⟩
    · split
      · exact ⟨rfl, rfl⟩
      · split
        · exact ⟨rfl, rfl⟩
        · split
          · exact ⟨rfl, rfl⟩
          · rename_i h1 h2 h3 h4 h5
            rw [if_neg h1, if_neg h2, if_neg h3, if_neg h4, if_neg h5] at h
            exact absurd rfl h

theorem allF_enough : ∀ (f g : Nat) (xs : List Int), By xs → xs.length < f → xs.length < g → allF f xs = allF g xs
  | 0, _, _, _, h, _ => by omega
  | _, 0, _, _, _, h => by omega
  | f + 1, g + 1, xs, hb, hf, hg => by
    unfold allF
    by_cases h : (openR xs).2.2 = 0
    · have hr := openR_room hb h
      have hl : (xs.drop (openR xs).2.1).length < xs.length := by rw [List.length_drop]; omega
      rw [if_pos h, if_pos h, allF_enough f g (xs.drop (openR xs).2.1) (hb.drop _) (by omega) (by omega)]
    · rw [if_neg h, if_neg h]

theorem allR_step {xs : List Int} (hb : By xs) (h : (openR xs).2.2 = 0) : allR xs = ((openR xs).1 :: (allR (xs.drop (openR xs).2.1)).1, (openR xs).2.1 + (allR (xs.drop (openR xs).2.1)).2) := by
  have hr := openR_room hb h
  have hl : (xs.drop (openR xs).2.1).length < xs.length := by rw [List.length_drop]; omega
  show allF (xs.length + 1) xs = _
  unfold allF
  rw [if_pos h, allF_enough xs.length _ (xs.drop (openR xs).2.1) (hb.drop _) (by omega) (Nat.lt_succ_self _)]
  rfl

theorem allR_end {xs : List Int} (h : (openR xs).2.2 ≠ 0) : allR xs = ([], 0) := by
  show allF (xs.length + 1) xs = _
  unfold allF
  rw [if_neg h]

/-- Records one behind the other, and something that begins with none. -/
theorem allR_seals : ∀ (l : List (List Int)) (rest : List Int), (∀ d ∈ l, By d ∧ d.length ≤ 8192) → By rest → (openR rest).2.2 ≠ 0 → allR ((l.map sealL).flatten ++ rest) = (l, ((l.map sealL).flatten).length)
  | [], rest, _, _, hr => by
    show allR rest = _
    rw [allR_end hr]
    rfl
  | d :: l, rest, hl, hb, hr => by
    have h1 := hl d (by simp)
    have h2 : ∀ d ∈ l, By d ∧ d.length ≤ 8192 := fun x hx => hl x (by simp [hx])
    have ih := allR_seals l rest h2 hb hr
    have hby : By ((l.map sealL).flatten ++ rest) := by
      refine By.app (fun x hx => ?_) hb
      rw [List.mem_flatten] at hx
      obtain ⟨y, hy, hxy⟩ := hx
      obtain ⟨z, hz, rfl⟩ := List.mem_map.1 hy
      exact sealL_by (h2 z hz).1 x hxy
    have e : (((d :: l).map sealL).flatten ++ rest) = sealL d ++ ((l.map sealL).flatten ++ rest) := by simp
    have ho := openR_seal h1.2 ((l.map sealL).flatten ++ rest)
    have hd : (sealL d ++ ((l.map sealL).flatten ++ rest)).drop (sealL d).length = (l.map sealL).flatten ++ rest := List.drop_left
    rw [e, allR_step (By.app (sealL_by h1.1) hby) (by rw [ho]), ho]
    dsimp only
    rw [hd, ih]
    simp

theorem infoS : (Try.prog.info? 22).map (fun i => (i.zero, i.size, i.bytes)) = some (some (.slice none 0 0), 1, 24) := by kernel_rfl

/-- What is left of a slice behind its first bytes. -/
theorem Rd.from {k : IntKind} {w : World} {b o n c : Nat} {xs : List Int} (h : Rd k w (some ⟨b, o, none⟩) n c xs) (a : Nat) (ha : a ≤ n) : Rd k w (some ⟨b, o + a, none⟩) (n - a) (c - a) (xs.drop a) := by
  have h2 := h.sub a (n - a) (c - a) (by omega) (by have := h.cap; omega)
  rw [List.take_of_length_le (by rw [List.length_drop, h.len]; exact Nat.le_refl _)] at h2
  exact h2

theorem Rd.below' {k : IntKind} {w w' : World} {p : Option Addr} {n c : Nat} {xs : List Int} (h : Rd k w p n c xs) (hb : Below w.heap.size w w') : Rd k w' p n c xs := h.below hb

set_option maxRecDepth 20000 in
set_option maxHeartbeats 1000000 in
theorem all_some (b o n c : Nat) (xs : List Int) (w : World) (hr : Rd .u8 w (some ⟨b, o, none⟩) n c xs) (hx : By xs) (hn : n ≤ 1099511627776) :
    Calls Try.prog 66 #[.slice (some ⟨b, o, none⟩) n c] w fun e w' => ∃ p' k' c' vs, e = .returned (.tuple #[.slice p' k' c', .int .i64 ((allR xs).2 : Nat)]) ∧ OwV 22 w' w.heap.size p' k' c' vs ∧ Slo 5 w' w.heap.size vs (allR xs).1 ∧ Below w.heap.size w w' := by
  have hlen := hr.len
  have hcap := hr.cap
  obtain ⟨i0, hi0, hz0, hz1, hz2⟩ := info_parts infoS
  go_enter Try.func66, Try.ntmps66
  go_wp2_with fail
  go_loopw [4, 5] (fun l a wr => ∃ (p' : Option Addr) (k' c' : Nat) (vs : List Value) (t : Nat) (yss : List (List Int)), l = .slice p' k' c' ∧ a = .int .i64 t ∧ t ≤ n ∧ k' ≤ t ∧ OwV 22 wr w.heap.size p' k' c' vs ∧ Slo 5 wr w.heap.size vs yss ∧ Below w.heap.size w wr ∧ Hid (allR xs = (yss ++ (allR (xs.drop t)).1, t + (allR (xs.drop t)).2))) (fun _ a _ => n - (intOf a).toNat)
  case atStart => exact ⟨none, 0, 0, [], 0, [], rfl, rfl, Nat.zero_le _, Nat.zero_le _, OwV.empty _ _ _ _, Slo.nil _ _ _, Below.refl _ _, by unfold Hid; simp⟩
  case round =>
    obtain ⟨p', k', c', vs, t, yss, rfl, rfl, ht, hkt, ho, hs, hb, HA⟩ := hrel
    have hrd : ∃ q m d, Rd .u8 w q m d (xs.drop t) ∧ m = n - t ∧ ((t = c ∧ q = some ⟨b, o, none⟩ ∧ d = 0) ∨ (t < c ∧ q = some ⟨b, o + t, none⟩ ∧ d = c - t)) := by
      by_cases hc : t = c
      · have h0 : xs.drop t = [] := List.drop_of_length_le (by omega)
        exact ⟨some ⟨b, o, none⟩, 0, 0, by rw [h0]; exact Rd.empty _ _ _ _ (fun h => by cases h), by omega, Or.inl ⟨hc, rfl, rfl⟩⟩
      · exact ⟨_, _, _, hr.from t ht, rfl, Or.inr ⟨by omega, rfl, rfl⟩⟩
    obtain ⟨q, m, d, hq, hm, hcase⟩ := hrd
    have hO := open_any q m d (xs.drop t) wr (hq.below' hb) (hx.drop t) (by omega)
    have hby := hx.drop t
    have hdl : (xs.drop t).length = n - t := by rw [List.length_drop, hlen]
    have hgo : ∀ {Q : Prop}, (((openR (xs.drop t)).2.2 = 0 → Q) ∧ ((openR (xs.drop t)).2.2 ≠ 0 → Q)) → Q := fun h => by
      by_cases e : (openR (xs.drop t)).2.2 = 0
      · exact h.1 e
      · exact h.2 e
    have ht2 : (t : Int) ≤ (n : Int) := by omega
    have hn2 : (n : Int) ≤ (c : Int) := by omega
    by_cases he : (openR (xs.drop t)).2.2 = 0
    · have hrm := openR_room hby he
      have hstp := allR_step hby he
      have hdd : (xs.drop t).drop (openR (xs.drop t)).2.1 = xs.drop (t + (openR (xs.drop t)).2.1) := List.drop_drop
      rw [hdd] at hstp
      have HB : Hid (allR xs = ((yss ++ [(openR (xs.drop t)).1]) ++ (allR (xs.drop (t + (openR (xs.drop t)).2.1))).1, (t + (openR (xs.drop t)).2.1) + (allR (xs.drop (t + (openR (xs.drop t)).2.1))).2)) := by
        unfold Hid
        rw [HA.out, hstp]
        dsimp only
        rw [List.append_assoc]
        congr 1
        omega
      rw [he] at hO
      generalize (openR (xs.drop t)).1 = dat at hO HB hrm
      generalize (openR (xs.drop t)).2.1 = sz at hO HB hrm
      clear hgo he hstp hdd HA hby hq hx hr
      rcases hcase with ⟨rfl, rfl, rfl⟩ | ⟨hlt, rfl, rfl⟩
      · exfalso
        omega
      · have hlt2 : ¬ t = c := by omega
        have hlt3 : (t : Int) < (c : Int) := by omega
        subst hm
        go_wp2_with fail
        refine hO.mono ?_
        rintro e w1 ⟨p1, c1, rfl, ho1, hb1⟩
        have hs1 := hs.below hb1
        have hoL := ho.below hb1
        have hbb1 := hb.trans (hb1.mono hb.size)
        have hbW := hb.size
        clear hO hs ho hb hb1
        have hc1 : (w1.alloc (.cells #[.slice p1 dat.length c1] 22)).cell? ⟨w1.heap.size, 0, none⟩ = some (.slice p1 dat.length c1) := by simp
        go_wp2_with (refine wpList_appV _ rfl (.tmp 21) (.tmp 23) 31 rfl 22 i0 (.slice none 0 0) 24 Try.underlying31 hi0 hz0 hz1 hz2 rfl w.heap.size p' k' c' vs rfl (hoL.below (below_alloc _ _)) _ _ _ _ rfl hc1 rfl ?b1 ?b2 ?b3 ?_)
        case b1 => omega
        case b2 => unfold maxLen; omega
        case b3 => (have := hbb1.size; simp; omega)
        intro p2 c2 w2 ho2 hb2 hk2
        have hs2 := ((hs1.below (below_alloc _ (.cells #[.slice p1 dat.length c1] 22))).snoc ((ho1.lower hbW).below (below_alloc _ _))).kept hk2 (by decide)
        have hbb2 := (hbb1.alloc hbb1.size (.cells #[.slice p1 dat.length c1] 22)).trans hb2
        clear hs1 hoL hbb1 hb2 hk2 ho1
        go_wp2_with fail
        go_roundw
        case rel => exact ⟨p2, k' + 1, c2, _, t + sz, yss ++ [dat], rfl, by go_num, by omega, by omega, ho2, hs2, hbb2, HB⟩
        case measure => simp [intOf]; omega
    · have hend := allR_end he
      have HE : Hid (allR xs = (yss, t)) := by
        unfold Hid
        rw [HA.out, hend]
        simp
      have hz : ((openR (xs.drop t)).1.length = 0) := by
        have := openR_bad he
        rw [this.1]; rfl
      have hne : (((openR (xs.drop t)).2.2 : Nat) : Int) ≠ 0 := by omega
      have hne2 : ((((openR (xs.drop t)).2.2 : Nat) : Int) != 0) = true := by simpa using hne
      generalize (openR (xs.drop t)).1 = dat at hO hz
      generalize (openR (xs.drop t)).2.1 = sz at hO
      generalize (openR (xs.drop t)).2.2 = er at hO hne hne2
      clear hgo he hend HA hby hdl hq hx hr hz hne
      rcases hcase with ⟨rfl, rfl, rfl⟩ | ⟨hlt, rfl, rfl⟩
      · obtain rfl : n = t := by omega
        obtain rfl : m = 0 := by omega
        clear hm hlen hcap ht ht2 hn2
        go_wp2_with fail
        refine hO.mono ?_
        rintro e w1 ⟨p1, c1, rfl, ho1, hb1⟩
        go_wp2_with fail
        go_ret2
        exact ⟨p', k', c', vs, by rw [HE.out]; rfl, ho.below hb1, by rw [HE.out]; exact hs.below hb1, hb.trans (hb1.mono hb.size)⟩
      · have hlt2 : ¬ t = c := by omega
        have hlt3 : (t : Int) < (c : Int) := by omega
        subst hm
        go_wp2_with fail
        refine hO.mono ?_
        rintro e w1 ⟨p1, c1, rfl, ho1, hb1⟩
        go_wp2_with fail
        go_ret2
        exact ⟨p', k', c', vs, by rw [HE.out]; rfl, ho.below hb1, by rw [HE.out]; exact hs.below hb1, hb.trans (hb1.mono hb.size)⟩

theorem openR_nil : openR [] = ([], 0, 2) := by decide +kernel

set_option maxRecDepth 20000 in
theorem all_zero (p : Option Addr) (w : World) :
    Calls Try.prog 66 #[.slice p 0 0] w fun e w' => e = .returned (.tuple #[.slice none 0 0, .int .i64 0]) ∧ Below w.heap.size w w' := by
  have hO := open_any p 0 0 [] w (Rd.empty _ _ _ _ (fun _ => rfl)) By.nil (by decide)
  rw [openR_nil] at hO
  cases p with
  | none =>
    go_enter Try.func66, Try.ntmps66
    go_wp2_with fail
    go_loopw [4, 5] (fun l a wr => l = .slice none 0 0 ∧ a = .int .i64 0 ∧ wr = w) (fun _ _ _ => 0)
    case atStart => exact ⟨rfl, rfl, rfl⟩
    case round =>
      obtain ⟨rfl, rfl, rfl⟩ := hrel
      go_wp2_with fail
      refine hO.mono ?_
      rintro e w1 ⟨p1, c1, rfl, ho1, hb1⟩
      go_wp2_with fail
      go_ret2
      exact ⟨rfl, hb1⟩
  | some a =>
    go_enter Try.func66, Try.ntmps66
    go_wp2_with fail
    go_loopw [4, 5] (fun l a wr => l = .slice none 0 0 ∧ a = .int .i64 0 ∧ wr = w) (fun _ _ _ => 0)
    case atStart => exact ⟨rfl, rfl, rfl⟩
    case round =>
      obtain ⟨rfl, rfl, rfl⟩ := hrel
      go_wp2_with fail
      refine hO.mono ?_
      rintro e w1 ⟨p1, c1, rfl, ho1, hb1⟩
      go_wp2_with fail
      go_ret2
      exact ⟨rfl, hb1⟩

theorem all_own (B : Nat) (p : Option Addr) (n c : Nat) (xs : List Int) (w : World) (ho : Ow .u8 5 w B p n c xs) (hx : By xs) (hn : n ≤ 1099511627776) :
    Calls Try.prog 66 #[.slice p n c] w fun e w' => ∃ p' k' c' vs, e = .returned (.tuple #[.slice p' k' c', .int .i64 ((allR xs).2 : Nat)]) ∧ OwV 22 w' w.heap.size p' k' c' vs ∧ Slo 5 w' w.heap.size vs (allR xs).1 ∧ Below w.heap.size w w' := by
  have zero : ∀ q : Option Addr, xs = [] → Calls Try.prog 66 #[.slice q 0 0] w fun e w' => ∃ p' k' c' vs, e = .returned (.tuple #[.slice p' k' c', .int .i64 ((allR xs).2 : Nat)]) ∧ OwV 22 w' w.heap.size p' k' c' vs ∧ Slo 5 w' w.heap.size vs (allR xs).1 ∧ Below w.heap.size w w' := by
    rintro q rfl
    refine (all_zero q w).mono ?_
    rintro e w' ⟨rfl, hb⟩
    have he : allR [] = ([], 0) := allR_end (by rw [openR_nil]; decide)
    rw [he]
    exact ⟨none, 0, 0, [], rfl, OwV.empty _ _ _ _, Slo.nil _ _ _, hb⟩
  have hr := ho.rd
  rcases ho.own with ⟨rfl, rfl⟩ | hown
  · exact zero p (List.length_eq_zero_iff.1 ho.len)
  · rcases hown.2 with ⟨hv, rfl⟩ | ⟨g, cap, cur, hv, _⟩
    · simp at hv
      obtain ⟨rfl, rfl⟩ := hv
      exact zero none (List.length_eq_zero_iff.1 ho.len)
    · simp at hv
      obtain ⟨rfl, rfl⟩ := hv
      exact all_some g 0 n c xs w hr hx hn

end Go.Proofs.Ytpjhadaiodnnaaa.M
