/-
  Own text: the reference's reader: contracts of Number, Within, End.
-/
import Derived.Test.YtcnkpgbmegppbaaJGet2
namespace Go.Proofs.Ytcnkpgbmegppbaa.M
open Go.ChangeShapes Go.WideShapes Go.ChangeAt Go.RowKit

/-- The reference's reader in block g: its bytes, its place, its error. -/
structure RQ (w : World) (g : Nat) (p : Option Addr) (n c : Nat) (B : List Int) (at_ er : Nat) : Prop where
  c0 : w.cell? ⟨g, 0, none⟩ = some (.slice p n c)
  c1 : w.cell? ⟨g, 1, none⟩ = some (.int .i64 at_)
  c2 : w.cell? ⟨g, 2, none⟩ = some (.int .i64 er)
  free : ∀ j, w.frozen? ⟨g, j, none⟩ = false
  rd : Rd .u8 w p n c B
  far : ∀ b o, 0 < n → p = some ⟨b, o, none⟩ → b < g
  byt : By B
  room : n ≤ 1099511627776
  le : at_ ≤ n

theorem RQ.lt {w g p n c B at_ er} (h : RQ w g p n c B at_ er) : g < w.heap.size := World.block_lt_of_cell? _ _ h.c0

theorem RQ.setE {w : World} {g : Nat} {p : Option Addr} {n c : Nat} {B : List Int} {at_ er : Nat} (h : RQ w g p n c B at_ er) (e : Nat) : RQ (w.setCell ⟨g, 2, none⟩ (.int .i64 e)) g p n c B at_ e := by
  refine ⟨?_, ?_, ?_, fun j => ?_, h.rd.kept (grown_setCell _ _ _ _) h.far, h.far, h.byt, h.room, h.le⟩
  · rw [World.cell?_setCell_other (h := addr_ne (by decide))]; exact h.c0
  · rw [World.cell?_setCell_other (h := addr_ne (by decide))]; exact h.c1
  · exact World.cell?_setCell_same _ _ _ h.c2
  · rw [World.frozen?_setCell]; exact h.free j

theorem RQ.setA {w : World} {g : Nat} {p : Option Addr} {n c : Nat} {B : List Int} {at_ er : Nat} (h : RQ w g p n c B at_ er) (a : Nat) (ha : a ≤ n) : RQ (w.setCell ⟨g, 1, none⟩ (.int .i64 a)) g p n c B a er := by
  refine ⟨?_, ?_, ?_, fun j => ?_, h.rd.kept (grown_setCell _ _ _ _) h.far, h.far, h.byt, h.room, ha⟩
  · rw [World.cell?_setCell_other (h := addr_ne (by decide))]; exact h.c0
  · exact World.cell?_setCell_same _ _ _ h.c1
  · rw [World.cell?_setCell_other (h := addr_ne (by decide))]; exact h.c2
  · rw [World.frozen?_setCell]; exact h.free j

theorem Ex.set1 (w : World) (g j : Nat) (v : Value) : Ex g w (w.setCell ⟨g, j, none⟩ v) := Ex.of_grown (grown_setCell w g j v)

theorem RQ.below {w w' : World} {g : Nat} {p : Option Addr} {n c : Nat} {B : List Int} {at_ er : Nat} (h : RQ w g p n c B at_ er) (hb : Below w.heap.size w w') : RQ w' g p n c B at_ er := by
  have hg := h.lt
  refine ⟨?_, ?_, ?_, fun j => ?_, h.rd.below hb, h.far, h.byt, h.room, h.le⟩
  · rw [hb.cell (p := ⟨g, 0, none⟩) hg]; exact h.c0
  · rw [hb.cell (p := ⟨g, 1, none⟩) hg]; exact h.c1
  · rw [hb.cell (p := ⟨g, 2, none⟩) hg]; exact h.c2
  · rw [hb.frozen (p := ⟨g, j, none⟩) hg]; exact h.free j

/-- What Number answers, and what it makes of the reader. -/
def RNumPost (w : World) (g : Nat) (p : Option Addr) (n c : Nat) (B : List Int) (at_ : Nat) (e : Ending) (w' : World) : Prop :=
  ((numR (B.drop at_)).2.2 = 0 ∧ e = .returned (.int .u64 (numR (B.drop at_)).1) ∧ RQ w' g p n c B (at_ + (numR (B.drop at_)).2.1) 0 ∧ Ex g w w') ∨
  ((numR (B.drop at_)).2.2 ≠ 0 ∧ e = .returned (.int .u64 0) ∧ (∃ er, er ≠ 0 ∧ RQ w' g p n c B at_ er) ∧ Ex g w w')

theorem RNumPost.bad {w W : World} {g : Nat} {p : Option Addr} {n c : Nat} {B : List Int} {at_ : Nat} (h : RQ w g p n c B at_ 0) (hb : Below w.heap.size w W) (hn : (numR (B.drop at_)).2.2 ≠ 0) (er : Nat) (he : er ≠ 0) (v : Int) (hv : v = er) :
    RNumPost w g p n c B at_ (.returned (.int .u64 0)) (W.setCell ⟨g, 2, none⟩ (.int .i64 v)) := by
  subst hv
  exact Or.inr ⟨hn, rfl, ⟨er, he, (h.below hb).setE er⟩, (Ex.of_below hb).setCell 2 _⟩

theorem RNumPost.good {w W : World} {g : Nat} {p : Option Addr} {n c : Nat} {B : List Int} {at_ : Nat} (h : RQ w g p n c B at_ 0) (hb : Below w.heap.size w W) {a m : Nat} (hn : numR (B.drop at_) = (a, m, 0)) (hm : at_ + m ≤ n) (u v : Int) (hu : u = a) (hv : v = (at_ : Int) + m) :
    RNumPost w g p n c B at_ (.returned (.int .u64 u)) (W.setCell ⟨g, 1, none⟩ (.int .i64 v)) := by
  rw [show v = ((at_ + m : Nat) : Int) by omega, hu]
  refine Or.inl ?_
  rw [hn]
  exact ⟨rfl, rfl, (h.below hb).setA _ hm, (Ex.of_below hb).setCell 1 _⟩

theorem rnum_mul {k l : Nat} (h : k ≤ 9) (hl : l < 128) (h9 : k = 9 → l ≤ 1) : IntKind.u64.wrap ((l : Int) * ((2 ^ (7 * k) : Nat) : Int)) = ((l * 2 ^ (7 * k) : Nat) : Int) := by
  have h1 := shift_lt h hl h9
  rw [← Int.natCast_mul, IntKind.wrap_u64]
  generalize l * 2 ^ (7 * k) = s at *
  omega

set_option maxRecDepth 20000 in
set_option maxHeartbeats 4000000 in
theorem rNumber_ok (g : Nat) (p : Option Addr) (n c : Nat) (B : List Int) (at_ : Nat) (w : World) (h : RQ w g p n c B at_ 0) :
    Calls Try.prog 61 #[.pointer (some ⟨g, 0, none⟩)] w (RNumPost w g p n c B at_) := by
  have q2 := h.c2
  have hbl := h.rd.len
  have hro := h.room
  have hle := h.le
  have H : Hid (RQ w g p n c B at_ 0) := h
  obtain ⟨ys, HY⟩ : ∃ ys, Hid (B.drop at_ = ys) := ⟨_, rfl⟩
  have hyl : ys.length = n - at_ := by rw [← HY.out, List.length_drop, hbl]
  clear h
  go_enter Try.func61, Try.ntmps61
  go_wp2_with fail
  go_loopw [3, 4, 13] (fun v st i wr => ∃ (k acc s : Nat), k ≤ 10 ∧ i = .int .i64 k ∧ v = .int .u64 acc ∧ st = .int .u64 s ∧ acc < 18446744073709551616 ∧ s < 18446744073709551616 ∧ Hid (k ≤ 9 → acc < 2 ^ (7 * k) ∧ s = 2 ^ (7 * k)) ∧ Hid (numR ys = numG k acc (ys.drop k)) ∧ Below w.heap.size w wr) (fun _ _ i _ => 11 - (intOf i).toNat)
  case atStart => exact ⟨0, 0, 1, by omega, rfl, rfl, rfl, by omega, by omega, (fun _ => ⟨by simp, by simp⟩ : (0 : Nat) ≤ 9 → 0 < 2 ^ (7 * 0) ∧ 1 = 2 ^ (7 * 0)), (by simp [numR] : numR ys = numG 0 0 (ys.drop 0)), Below.refl _ _⟩
  case round =>
    clear q2
    obtain ⟨k, acc, s, hk, rfl, rfl, rfl, hacc, hs, hlt, he, hb⟩ := hrel
    have h' := H.out.below hb
    have q0 := h'.c0
    have q1 := h'.c1
    have q2 := h'.c2
    have f1 := h'.free 1
    have f2 := h'.free 2
    have hkk : decide ((k : Int) < 11) = true := decide_eq_true (by omega)
    have hw1 : IntKind.i64.wrap ((at_ : Int) + (k : Int)) = (at_ : Int) + (k : Int) := by rw [IntKind.wrap_i64]; omega
    by_cases hend : n ≤ at_ + k
    · have hd : decide ((n : Int) ≤ (at_ : Int) + (k : Int)) = true := decide_eq_true (by omega)
      have HR : Hid ((numR ys).2.2 ≠ 0) := by
        show _ ≠ _
        rw [he.out, List.drop_of_length_le (by omega)]
        exact (by decide : (2 : Nat) ≠ 0)
      clear he hlt h'
      go_wp2_with fail
      go_quiet (fail)
      go_wp2_with fail
      go_ret
      exact RNumPost.bad H.out (below_drewN hb _) (by rw [HY.out]; exact HR.out) 2 (by decide) _ rfl
    · have hd : decide ((n : Int) ≤ (at_ : Int) + (k : Int)) = false := decide_eq_false (by omega)
      have hd2 : ((at_ : Int) + (k : Int)) < (n : Int) := by omega
      obtain ⟨b, o, rfl, hc⟩ := h'.rd.cells (by omega)
      have hcx := hc (at_ + k) (by omega)
      have hz := h'.byt (B.getD (at_ + k) 0) (getD_mem (by omega))
      have hyk : ys.getD k 0 = B.getD (at_ + k) 0 := by rw [← HY.out, List.getD_eq_getElem?_getD, List.getD_eq_getElem?_getD, List.getElem?_drop]
      have he2 := he.out
      rw [drop_getD (xs := ys) (k := k) (by omega), hyk] at he2
      clear hyk hc he h'
      generalize B.getD (at_ + k) 0 = z at hcx hz he2
      obtain ⟨z, rfl⟩ := Int.eq_ofNat_of_zero_le hz.1
      have hl : z % 128 < 128 := by omega
      have HE : Hid (numR ys = numG k acc ((z : Int) :: ys.drop (k + 1))) := he2
      have HB : Hid (0 ≤ (z : Int) ∧ (z : Int) < 256) := hz
      clear he2 hz
      rcases (show k = 10 ∨ (k = 9 ∧ 1 < z % 128) ∨ (k = 9 ∧ ¬ 1 < z % 128) ∨ k < 9 by omega) with rfl | ⟨rfl, h1⟩ | ⟨hk9, h1⟩ | hk9
      · have HR : Hid ((numR ys).2.2 ≠ 0) := by
          show _ ≠ _
          rw [HE.out]
          exact numG_past _ 10 acc (By.cons HB.out (by rw [← HY.out]; exact (H.out.byt.drop _).drop _)) (by decide)
        clear HE hlt HB
        go_wp2_with fail
        go_quiet (fail)
        go_wp2_with fail
        go_quiet (fail)
        go_wp2_with fail
        go_ret
        exact RNumPost.bad H.out (below_drewN hb _) (by rw [HY.out]; exact HR.out) 5 (by decide) _ rfl
      · have HR : Hid ((numR ys).2.2 ≠ 0) := by
          show _ ≠ _
          rw [HE.out, numG, if_pos (Or.inl ⟨rfl, by simpa using h1⟩)]
          exact (by decide : (5 : Nat) ≠ 0)
        have hd3 : decide ((1 : Int) < (z : Int) % 128) = true := decide_eq_true (by omega)
        clear HE hlt HB
        go_wp2_with fail
        go_quiet (fail)
        go_wp2_with fail
        go_quiet (fail)
        go_wp2_with fail
        go_ret
        exact RNumPost.bad H.out (below_drewN hb _) (by rw [HY.out]; exact HR.out) 5 (by decide) _ rfl
      · obtain ⟨ha, hs2⟩ := hlt.out (by omega)
        have h91 : k = 9 → z % 128 ≤ 1 := by omega
        have HMl : Hid (z % 128 * 2 ^ (7 * k) < 18446744073709551616) := by have := shift_lt (k := k) (l := z % 128) (by omega) hl h91; show _ < _; omega
        have HSum : Hid (acc + z % 128 * 2 ^ (7 * k) < 18446744073709551616) := sum_lt (by omega) hl h91 ha
        have HNx : Hid (acc + z % 128 * 2 ^ (7 * k) < 2 ^ (7 * (k + 1))) := sum_lt_next hl ha
        obtain ⟨m1, Hm1⟩ : ∃ m : Nat, Hid (z % 128 * 2 ^ (7 * k) = m) := ⟨_, rfl⟩
        obtain ⟨a2, Ha2⟩ : ∃ m : Nat, Hid (acc + m1 = m) := ⟨_, rfl⟩
        obtain ⟨s2, Hs2⟩ : ∃ m : Nat, Hid (s * 128 % 18446744073709551616 = m) := ⟨_, rfl⟩
        have Hss : Hid (s = 2 ^ (7 * k)) := hs2
        rw [Hm1.out] at HMl HSum HNx
        rw [Ha2.out] at HSum HNx
        have hm1 : IntKind.u64.wrap ((z : Int) % 128 * (s : Int)) = (m1 : Int) := by
          have e := Hm1.out
          rw [← Hss.out] at e
          have hq := HMl.out
          rw [show (z : Int) % 128 * (s : Int) = ((z % 128 * s : Nat) : Int) by simp, e, IntKind.wrap_u64]
          omega
        have hm2 : IntKind.u64.wrap ((acc : Int) + (m1 : Int)) = (a2 : Int) := by have e := Ha2.out; have hq := HSum.out; rw [IntKind.wrap_u64]; omega
        have hm3 : IntKind.u64.wrap ((s : Int) * 128) = (s2 : Int) := by have e := Hs2.out; rw [IntKind.wrap_u64]; omega
        have hs2lt : s2 < 18446744073709551616 := by have e := Hs2.out; omega
        have ha2lt : a2 < 18446744073709551616 := HSum.out
        have hza : Hid (numR ys = if z = 0 ∧ 0 < k then (0, 0, 10) else if z < 128 then (a2, k + 1, 0) else numG (k + 1) a2 (ys.drop (k + 1))) := by
          show _ = _
          rw [HE.out, numG, if_neg (by simp; omega)]
          simp only [Int.toNat_natCast]
          rw [Hm1.out, Ha2.out]
        clear HE hlt ha hs2 h91 HMl Hm1 Ha2
        by_cases hz0 : z = 0 ∧ 0 < k
        · have HR : Hid ((numR ys).2.2 ≠ 0) := by
            show _ ≠ _
            rw [hza.out, if_pos hz0]
            exact (by decide : (10 : Nat) ≠ 0)
          obtain ⟨hz1, hk1⟩ := hz0
          have hzb : ((z : Int) == 0) = true := by simp; omega
          have hk10 : ((k : Int) == 10) = false := by simp; omega
          have hk99 : ((k : Int) == 9) = true := by simp; omega
          have hd3 : decide ((1 : Int) < (z : Int) % 128) = false := decide_eq_false (by omega)
          have hk91 : k ≤ 9 := by omega
          clear hk9 h1
          have hk2 : decide ((0 : Int) < (k : Int)) = true := decide_eq_true (by omega)
          clear hza hm1 hm2 hm3 hz1 hk2
          go_wp2_with fail
          go_quiet (fail)
          go_wp2_with fail
          go_quiet (fail)
          go_wp2_with fail
          go_ret
          exact RNumPost.bad H.out (below_drewN hb _) (by rw [HY.out]; exact HR.out) 10 (by decide) _ rfl
        · by_cases h128 : z < 128
          · have HR : Hid (numR ys = (a2, k + 1, 0)) := by
              show _ = _
              rw [hza.out, if_neg hz0, if_pos h128]
            have hd4 : decide ((z : Int) < 128) = true := decide_eq_true (by omega)
            have hw2 : IntKind.i64.wrap ((at_ : Int) + (k : Int) + 1) = (at_ : Int) + (k : Int) + 1 := by rw [IntKind.wrap_i64]; omega
            have hk10 : ((k : Int) == 10) = false := by simp; omega
            have hk99 : ((k : Int) == 9) = true := by simp; omega
            have hd3 : decide ((1 : Int) < (z : Int) % 128) = false := decide_eq_false (by omega)
            have hk91 : k ≤ 9 := by omega
            clear hk9 h1
            clear hza h128
            rcases (show z = 0 ∧ k = 0 ∨ 0 < z by omega) with ⟨hz1, hk1⟩ | hzp
            · subst hk1
              simp at hk99
            · have hzb : ((z : Int) == 0) = false := by simp; omega
              clear hz0 hzp
              go_wp2_with fail
              go_quiet (fail)
              go_wp2_with fail
              go_quiet (fail)
              go_wp2_with fail
              go_ret
              exact RNumPost.good H.out (below_drewN hb _) (by rw [HY.out]; exact HR.out) (by omega) _ _ (by rfl) (by omega)
          · have HR : Hid (numR ys = numG (k + 1) a2 (ys.drop (k + 1))) := by
              show _ = _
              rw [hza.out, if_neg hz0, if_neg h128]
            have hd4 : decide ((z : Int) < 128) = false := decide_eq_false (by omega)
            have hzb : ((z : Int) == 0) = false := by simp; omega
            have HN : Hid (k + 1 ≤ 9 → a2 < 2 ^ (7 * (k + 1)) ∧ s2 = 2 ^ (7 * (k + 1))) := by
              intro h9
              refine ⟨HNx.out, ?_⟩
              rw [← Hs2.out, Hss.out, pow7_succ]
              have := pow_le56 (k := k) (by omega)
              generalize 2 ^ (7 * k) = q at *
              omega
            have hk10 : ((k : Int) == 10) = false := by simp; omega
            have hk99 : ((k : Int) == 9) = true := by simp; omega
            have hd3 : decide ((1 : Int) < (z : Int) % 128) = false := decide_eq_false (by omega)
            have hk91 : k ≤ 9 := by omega
            clear hk9 h1
            clear hza hz0 h128
            go_wp2_with fail
            go_quiet (fail)
            go_wp2_with fail
            go_quiet (fail)
            go_wp2_with fail
            go_roundw
            case rel => exact ⟨k + 1, a2, s2, by omega, by go_num, rfl, rfl, ha2lt, hs2lt, HN, HR, below_drewN hb _⟩
            case measure => simp [intOf]; omega
      · obtain ⟨ha, hs2⟩ := hlt.out (by omega)
        have h91 : k = 9 → z % 128 ≤ 1 := by omega
        have HMl : Hid (z % 128 * 2 ^ (7 * k) < 18446744073709551616) := by have := shift_lt (k := k) (l := z % 128) (by omega) hl h91; show _ < _; omega
        have HSum : Hid (acc + z % 128 * 2 ^ (7 * k) < 18446744073709551616) := sum_lt (by omega) hl h91 ha
        have HNx : Hid (acc + z % 128 * 2 ^ (7 * k) < 2 ^ (7 * (k + 1))) := sum_lt_next hl ha
        obtain ⟨m1, Hm1⟩ : ∃ m : Nat, Hid (z % 128 * 2 ^ (7 * k) = m) := ⟨_, rfl⟩
        obtain ⟨a2, Ha2⟩ : ∃ m : Nat, Hid (acc + m1 = m) := ⟨_, rfl⟩
        obtain ⟨s2, Hs2⟩ : ∃ m : Nat, Hid (s * 128 % 18446744073709551616 = m) := ⟨_, rfl⟩
        have Hss : Hid (s = 2 ^ (7 * k)) := hs2
        rw [Hm1.out] at HMl HSum HNx
        rw [Ha2.out] at HSum HNx
        have hm1 : IntKind.u64.wrap ((z : Int) % 128 * (s : Int)) = (m1 : Int) := by
          have e := Hm1.out
          rw [← Hss.out] at e
          have hq := HMl.out
          rw [show (z : Int) % 128 * (s : Int) = ((z % 128 * s : Nat) : Int) by simp, e, IntKind.wrap_u64]
          omega
        have hm2 : IntKind.u64.wrap ((acc : Int) + (m1 : Int)) = (a2 : Int) := by have e := Ha2.out; have hq := HSum.out; rw [IntKind.wrap_u64]; omega
        have hm3 : IntKind.u64.wrap ((s : Int) * 128) = (s2 : Int) := by have e := Hs2.out; rw [IntKind.wrap_u64]; omega
        have hs2lt : s2 < 18446744073709551616 := by have e := Hs2.out; omega
        have ha2lt : a2 < 18446744073709551616 := HSum.out
        have hza : Hid (numR ys = if z = 0 ∧ 0 < k then (0, 0, 10) else if z < 128 then (a2, k + 1, 0) else numG (k + 1) a2 (ys.drop (k + 1))) := by
          show _ = _
          rw [HE.out, numG, if_neg (by simp; omega)]
          simp only [Int.toNat_natCast]
          rw [Hm1.out, Ha2.out]
        clear HE hlt ha hs2 h91 HMl Hm1 Ha2
        by_cases hz0 : z = 0 ∧ 0 < k
        · have HR : Hid ((numR ys).2.2 ≠ 0) := by
            show _ ≠ _
            rw [hza.out, if_pos hz0]
            exact (by decide : (10 : Nat) ≠ 0)
          obtain ⟨hz1, hk1⟩ := hz0
          have hzb : ((z : Int) == 0) = true := by simp; omega
          have hk10 : ((k : Int) == 10) = false := by simp; omega
          have hk99 : ((k : Int) == 9) = false := by simp; omega
          have hk2 : decide ((0 : Int) < (k : Int)) = true := decide_eq_true (by omega)
          clear hza hm1 hm2 hm3 hz1 hk2
          go_wp2_with fail
          go_quiet (fail)
          go_wp2_with fail
          go_quiet (fail)
          go_wp2_with fail
          go_ret
          exact RNumPost.bad H.out (below_drewN hb _) (by rw [HY.out]; exact HR.out) 10 (by decide) _ rfl
        · by_cases h128 : z < 128
          · have HR : Hid (numR ys = (a2, k + 1, 0)) := by
              show _ = _
              rw [hza.out, if_neg hz0, if_pos h128]
            have hd4 : decide ((z : Int) < 128) = true := decide_eq_true (by omega)
            have hw2 : IntKind.i64.wrap ((at_ : Int) + (k : Int) + 1) = (at_ : Int) + (k : Int) + 1 := by rw [IntKind.wrap_i64]; omega
            have hk10 : ((k : Int) == 10) = false := by simp; omega
            have hk99 : ((k : Int) == 9) = false := by simp; omega
            clear hza h128
            rcases (show z = 0 ∧ k = 0 ∨ 0 < z by omega) with ⟨hz1, hk1⟩ | hzp
            · have hzb : ((z : Int) == 0) = true := by simp; omega
              have hkn : ¬ 0 < k := by omega
              have hkn2 : decide ((0 : Int) < (k : Int)) = false := decide_eq_false (by omega)
              clear hz0 hz1 hk1
              go_wp2_with fail
              go_quiet (fail)
              go_wp2_with fail
              go_quiet (fail)
              go_wp2_with fail
              go_ret
              exact RNumPost.good H.out (below_drewN hb _) (by rw [HY.out]; exact HR.out) (by omega) _ _ (by rfl) (by omega)
            · have hzb : ((z : Int) == 0) = false := by simp; omega
              clear hz0 hzp
              go_wp2_with fail
              go_quiet (fail)
              go_wp2_with fail
              go_quiet (fail)
              go_wp2_with fail
              go_ret
              exact RNumPost.good H.out (below_drewN hb _) (by rw [HY.out]; exact HR.out) (by omega) _ _ (by rfl) (by omega)
          · have HR : Hid (numR ys = numG (k + 1) a2 (ys.drop (k + 1))) := by
              show _ = _
              rw [hza.out, if_neg hz0, if_neg h128]
            have hd4 : decide ((z : Int) < 128) = false := decide_eq_false (by omega)
            have hzb : ((z : Int) == 0) = false := by simp; omega
            have HN : Hid (k + 1 ≤ 9 → a2 < 2 ^ (7 * (k + 1)) ∧ s2 = 2 ^ (7 * (k + 1))) := by
              intro h9
              refine ⟨HNx.out, ?_⟩
              rw [← Hs2.out, Hss.out, pow7_succ]
              have := pow_le56 (k := k) (by omega)
              generalize 2 ^ (7 * k) = q at *
              omega
            have hk10 : ((k : Int) == 10) = false := by simp; omega
            have hk99 : ((k : Int) == 9) = false := by simp; omega
            clear hza hz0 h128
            go_wp2_with fail
            go_quiet (fail)
            go_wp2_with fail
            go_quiet (fail)
            go_wp2_with fail
            go_roundw
            case rel => exact ⟨k + 1, a2, s2, by omega, by go_num, rfl, rfl, ha2lt, hs2lt, HN, HR, below_drewN hb _⟩
            case measure => simp [intOf]; omega

end Go.Proofs.Ytcnkpgbmegppbaa.M
