/-
  Own text: the contract of the reference's digest.
-/
import Derived.Test.YtlmmidlegdmjpaaGRefOf
import Derived.Deep.Cut
import Derived.Test.YtlmmidlegdmjpaaDet2
namespace Go.Proofs.Ytlmmidlegdmjpaa.M
open Go.ChangeShapes Go.WideShapes Go.ChangeAt Go.RowKit

theorem Rd.one (k : IntKind) (w : World) (e : TypeId) (x : Int) : Rd k (w.alloc (.cells #[.int k x] e)) (some ⟨w.heap.size, 0, none⟩) 1 1 [x] := by
  refine ⟨rfl, Nat.le_refl _, (fun h => by cases h), fun _ => ⟨w.heap.size, 0, rfl, fun i hi => ?_⟩⟩
  obtain rfl : i = 0 := by omega
  simp

theorem Ow.setRow {k : IntKind} {e : TypeId} {w : World} {B : Nat} {p : Option Addr} {n c : Nat} {xs : List Int} (h : Ow k e w B p n c xs) (g : Nat) (cs : Array Value) (hg : g < B) : Ow k e (w.setRow g cs) B p n c xs := by
  refine ⟨h.len, ?_⟩
  rcases h.own with ho | ho
  · exact Or.inl ho
  · refine Or.inr ⟨ho.1, ?_⟩
    rcases ho.2 with h2 | ⟨g', cap, cur, hv, hg', hh, r⟩
    · exact Or.inl h2
    · exact Or.inr ⟨g', cap, cur, hv, hg', by rw [setRow_other w g g' cs (by omega)]; exact hh, r⟩

theorem holdo_call {w : World} {l : List (TypeId × IntKind × Nat × List Int)} {k : IntKind} {e : TypeId} {B : Nat} {p : Option Addr} {n c : Nat} {xs : List Int} {P : Program} {f : FuncId} {args : Array Value} {v : Value} {W : World} (hS : Hold w l W ∧ Ow k e W B p n c xs) (c' : Calls P f args W fun e w' => e = .returned v ∧ Below W.heap.size W w') : Calls P f args W fun e' w' => e' = .returned v ∧ (Hold w l w' ∧ Ow k e w' B p n c xs) :=
  c'.mono (by rintro e' w' ⟨rfl, hb⟩; exact ⟨rfl, hS.1.below hb, hS.2.below hb⟩)

set_option maxRecDepth 20000 in
set_option linter.unusedSimpArgs false in
set_option maxHeartbeats 10000000 in
theorem refof_any (kp : Option Addr) (kc : Nat) (kl : List Int) (p : Option Addr) (n c : Nat) (l : List Int) (w : World) (hk : Rd .u8 w kp 16 kc kl) (hkb : Byt kl) (hr : Rd .u8 w p n c l) (hby : Byt l) (hn : n ≤ 1099511627776) :
    Calls Try.prog 9 #[.slice kp 16 kc, .slice p n c] w fun r w' => r = .returned (.tuple #[.agg (nums .u8 (digest kl l)), .int .i64 0]) ∧ Below w.heap.size w w' := by
  obtain ⟨hZ40, hZ60, hb0⟩ := two_box w (List.replicate 16 0) (List.replicate 16 0)
  rw [zero16] at hZ40 hZ60 hb0
  obtain ⟨kb, ko, rfl⟩ := hk.at (by decide)
  have hkl := hk.len
  have cF := fun W (hb : Below w.heap.size w W) => four_any kb ko 16 kc kl W (hk.below hb) hkb (Nat.le_refl _)
  go_enter Try.func9, Try.ntmps9
  go_wp2_with fail
  generalize (w.alloc _).alloc _ = W0 at hZ40 hZ60 hb0 ⊢
  refine (cF _ hb0).mono ?_
  rintro e w1 ⟨rfl, hb1⟩
  have hZ41 := hZ40.below hb1
  have hZ61 := hZ60.below hb1
  have hbb1 := hb0.trans (hb1.mono hb0.size)
  have hlt1 : w.heap.size + 1 < w1.heap.size := hZ61.lt
  clear hZ40 hZ60 hb0 hb1 cF
  have hqk := qW_lt hkb
  have hdg : Hid (digest kl l = qB (xr (stirN 12 (xr (xr (absorb (qW kl) (ahead n) l) (qW (fillL (l.drop (16 * ahead n))))) (endW (qW kl) (l.drop (16 * ahead n))))) (endW (qW kl) (l.drop (16 * ahead n))))) := by unfold Hid digest; rw [hr.len]
  generalize qW kl = k at hqk hdg ⊢
  have hi := info_nums .u32 (qI k) infoQ rfl
  have hz : (nums .u32 [0, 0, 0, 0]).size = (nums .u32 (qI k)).size := rfl
  have hY : ArrI 35 .u32 (w1.alloc (.cells #[.int .u32 0, .int .u32 0, .int .u32 0, .int .u32 0] 35)) w1.heap.size [0, 0, 0, 0] := ArrI.new 35 .u32 w1 [0, 0, 0, 0]
  have hK := hY.setRow (qI k)
  have hZ42 := (hZ41.alloc (.cells #[.int .u32 0, .int .u32 0, .int .u32 0, .int .u32 0] 35)).rowOther w1.heap.size (nums .u32 (qI k)) (by omega)
  have hZ62 := (hZ61.alloc (.cells #[.int .u32 0, .int .u32 0, .int .u32 0, .int .u32 0] 35)).rowOther w1.heap.size (nums .u32 (qI k)) (by omega)
  have hbb2 := (hbb1.alloc hbb1.size (.cells #[.int .u32 0, .int .u32 0, .int .u32 0, .int .u32 0] 35)).trans (below_setRow _ w1.heap.size (nums .u32 (qI k)) (by omega))
  have hsz : ((w1.alloc (.cells #[.int .u32 0, .int .u32 0, .int .u32 0, .int .u32 0] 35)).setRow w1.heap.size (nums .u32 (qI k))).heap.size = w1.heap.size + 1 := by simp
  have hY2 : ArrI 35 .u32 (((w1.alloc (.cells #[.int .u32 0, .int .u32 0, .int .u32 0, .int .u32 0] 35)).setRow w1.heap.size (nums .u32 (qI k))).alloc (.cells #[.int .u32 0, .int .u32 0, .int .u32 0, .int .u32 0] 35)) _ [0, 0, 0, 0] := ArrI.new 35 .u32 _ [0, 0, 0, 0]
  rw [hsz] at hY2
  have hS3 := hY2.setRow (qI k)
  have hK3 := (hK.alloc (.cells #[.int .u32 0, .int .u32 0, .int .u32 0, .int .u32 0] 35)).rowOther (w1.heap.size + 1) (nums .u32 (qI k)) (by omega)
  have hZ43 := (hZ42.alloc (.cells #[.int .u32 0, .int .u32 0, .int .u32 0, .int .u32 0] 35)).rowOther (w1.heap.size + 1) (nums .u32 (qI k)) (by omega)
  have hZ63 := (hZ62.alloc (.cells #[.int .u32 0, .int .u32 0, .int .u32 0, .int .u32 0] 35)).rowOther (w1.heap.size + 1) (nums .u32 (qI k)) (by omega)
  have hbb3 := (hbb2.alloc (by omega) (.cells #[.int .u32 0, .int .u32 0, .int .u32 0, .int .u32 0] 35)).trans (below_setRow _ (w1.heap.size + 1) (nums .u32 (qI k)) (by omega))
  clear hsz hZ42 hZ62 hbb2 hZ41 hZ61 hbb1
  go_wp2_with (first | refine wpList_store_row rfl 35 _ _ rfl w1.heap.size (nums .u32 (qI k)) rfl rfl _ _ hY hi hz (nums_one _ _) ?_ | refine wpList_load_row rfl 35 _ rfl w1.heap.size rfl _ _ _ _ hK Try.underlying35 rfl hi ?_ | refine wpList_store_row rfl 35 _ _ rfl (w1.heap.size + 1) (nums .u32 (qI k)) rfl rfl _ _ hY2 hi hz (nums_one _ _) ?_)
  (try dsimp only [Act.put])
  clear hY hY2 hK
  generalize (((w1.alloc _).setRow w1.heap.size _).alloc _).setRow (w1.heap.size + 1) _ = W3 at hS3 hK3 hZ43 hZ63 hbb3 ⊢
  generalize w1.heap.size = G at hlt1 hS3 hK3 hZ43 hZ63 hbb3 ⊢
  go_loopw [1, 24] (fun v i wr => ∃ q m d r st, ∃ j : Nat, i = .int .i64 j ∧ v = .slice q m d ∧ Rd .u8 w q m d r ∧ Byt r ∧ Qd st ∧ ArrI 35 .u32 wr (G + 1) (qI st) ∧ ArrI 35 .u32 wr G (qI k) ∧ ArrI 25 .u8 wr w.heap.size (List.replicate 16 0) ∧ ArrI 25 .u8 wr (w.heap.size + 1) (List.replicate 16 0) ∧ Below w.heap.size w wr ∧ m + 16 * j = n ∧
    Hid (absorb st (ahead m) r = absorb k (ahead n) l) ∧ Hid (r.drop (16 * ahead m) = l.drop (16 * ahead n))) (fun v _ _ => slen v)
  case atStart => exact ⟨p, n, c, l, k, 0, rfl, rfl, hr, hby, hqk, hS3, hK3, hZ43, hZ63, hbb3, rfl, rfl, rfl⟩
  case round =>
    clear hS3 hK3 hZ43 hZ63 hbb3
    obtain ⟨q, m, d, r, st, j, rfl, rfl, hq, hbr, hst, hS, hK, hZ4, hZ6, hb, hmj, hab, hre⟩ := hrel
    by_cases hm : 16 < m
    · obtain ⟨rb, ro, rfl⟩ := hq.at (by omega)
      have hql := hq.len
      have hcap := hq.cap
      have hm2 : (16 : Int) < (m : Int) := by omega
      have hj2 : (j : Int) < (n : Int) / 16 := by omega
      have hiS := info_nums .u32 (qI st) infoQ rfl
      have hiT := info_nums .u32 (qI (stirN 12 (xr st (qW (r.take 16))))) infoQ rfl
      have hqw : qW (r.take 16) = qW r := by
        have hg : ∀ i, i < 16 → (r.take 16).getD i 0 = r.getD i 0 := fun i hi => by rw [List.getD_eq_getElem?_getD, List.getD_eq_getElem?_getD, List.getElem?_take, if_pos hi]
        unfold qW wdL
        rw [hg 0 (by decide), hg (0 + 1) (by decide), hg (0 + 2) (by decide), hg (0 + 3) (by decide), hg 4 (by decide), hg (4 + 1) (by decide), hg (4 + 2) (by decide), hg (4 + 3) (by decide), hg 8 (by decide), hg (8 + 1) (by decide), hg (8 + 2) (by decide), hg (8 + 3) (by decide), hg 12 (by decide), hg (12 + 1) (by decide), hg (12 + 2) (by decide), hg (12 + 3) (by decide)]
      have hqt := qW_lt (hbr.take 16)
      have hxt := xr_lt hst hqt
      have hS0 : Hold w [(25, .u8, w.heap.size, List.replicate 16 0), (25, .u8, w.heap.size + 1, List.replicate 16 0), (35, .u32, G, qI k), (35, .u32, G + 1, qI st)] wr := Hold.cons hZ4 (Hold.cons hZ6 (Hold.cons hK (Hold.cons hS (Hold.nil hb))))
      have hhead : Rd .u8 w (some ⟨rb, ro, none⟩) 16 d (r.take 16) := by
        refine ⟨by rw [List.length_take, hql]; omega, by omega, (fun h => by cases h), fun _ => ⟨rb, ro, rfl, fun i hi => ?_⟩⟩
        obtain ⟨b', o', e, hc⟩ := hq.cells (by omega)
        cases e
        rw [hc i (by omega), List.getD_eq_getElem?_getD, List.getD_eq_getElem?_getD, List.getElem?_take, if_pos hi]
      have cF := fun W (hS : Hold w [(25, .u8, w.heap.size, List.replicate 16 0), (25, .u8, w.heap.size + 1, List.replicate 16 0), (35, .u32, G, qI k), (35, .u32, G + 1, qI st)] W) => four_any rb ro 16 d (r.take 16) W (hhead.below hS.2) (hbr.take 16) (Nat.le_refl _)
      have cX := fun W => xor_any st (qW (r.take 16)) W hst hqt
      have cS := fun W => stir_any (xr st (qW (r.take 16))) W hxt
      have hab2 : Hid (absorb (stirN 12 (xr st (qW (r.take 16)))) (ahead (m - 16)) (r.drop 16) = absorb k (ahead n) l) := by
        have h1 := hab.out
        rw [absorb_step st r m hm] at h1
        exact h1
      have hre2 : Hid ((r.drop 16).drop (16 * ahead (m - 16)) = l.drop (16 * ahead n)) := by
        have h1 := hre.out
        rw [rest_step r m hm] at h1
        exact h1
      have hcut := hq.cut 16 (by omega)
      have hbr2 := hbr.drop 16
      have hst2 := stirN_lt hxt 12
      have hmj2 : m - 16 + 16 * (j + 1) = n := by omega
      have hle16 : (16 : Int) ≤ (d : Int) := by omega
      have hle17 : (16 : Nat) ≤ d := by omega
      have hd0 : ¬ d = 0 := by omega
      clear hab hre hZ4 hZ6 hK hS hb hqw
      generalize r.take 16 = tk at *
      go_wp2_with fail
      refine wp_region_det [0, 1, 2, 3, 4, 5] (Hold w [(25, .u8, w.heap.size, List.replicate 16 0), (25, .u8, w.heap.size + 1, List.replicate 16 0), (35, .u32, G, qI k), (35, .u32, G + 1, qI st)]) (Hold w [(25, .u8, w.heap.size, List.replicate 16 0), (25, .u8, w.heap.size + 1, List.replicate 16 0), (35, .u32, G, qI k), (35, .u32, G + 1, qI st)]) (by kernel_rfl) hS0.drew ?_
      refine wpDet_take _ (fun _ _ h hb => h.below hb) (fun _ h => h) (i := 0) rfl (by kernel_rfl) (by kernel_rfl) (by kernel_rfl) (by kernel_rfl) (fun _ _ _ h => h) (Gives.of_yields (yieldsIf_load_mid (by rfl) _ _ rfl _ _ rfl _ _ (fun _ h => (h.at 3 rfl).range) Try.underlying35 rfl hiS)) ?_
      (try simp only [Act.put, List.getElem_toArray, List.getElem_cons_zero, List.getElem_cons_succ, List.setIfInBounds_toArray, List.set_cons_zero, List.set_cons_succ])
      refine wpDet_take ?vL1 (fun _ _ h hb => h.below hb) (fun _ h => h) (i := 1) rfl (by kernel_rfl) (by kernel_rfl) (by kernel_rfl) (by kernel_rfl) (fun _ _ _ h => h) (Gives.value (by rfl) ?yL1) ?rL1
      case yL1 => (intro w' hSw; (try dsimp only at hSw); go_simp; try with_reducible rfl)
      (try simp only [Act.put, List.getElem_toArray, List.getElem_cons_zero, List.getElem_cons_succ, List.setIfInBounds_toArray, List.set_cons_zero, List.set_cons_succ])
      refine wpDet_take ?vL2 (fun _ _ h hb => h.below hb) (fun _ h => h) (i := 2) rfl (by kernel_rfl) (by kernel_rfl) (by kernel_rfl) (by kernel_rfl) (fun _ _ _ h => h) (Gives.value (by rfl) ?yL2) ?rL2
      case yL2 => (intro w' hSw; (try dsimp only at hSw); go_simp; try with_reducible rfl)
      (try simp only [Act.put, List.getElem_toArray, List.getElem_cons_zero, List.getElem_cons_succ, List.setIfInBounds_toArray, List.set_cons_zero, List.set_cons_succ])
      refine wpDet_take (.agg (nums .u32 (qI (qW tk)))) (fun _ _ h hb => h.below hb) (fun _ h => h) (i := 3) rfl (by kernel_rfl) (by kernel_rfl) (by kernel_rfl) (by kernel_rfl) (fun _ _ _ h => h) (Gives.call 21 #[.slice (some ⟨rb, ro, none⟩) 16 d] (by rfl) (fun _ => by first | (go_simp; done) | (go_simp; rfl)) (fun W hW => cF W hW)) ?_
      (try simp only [Act.put, List.getElem_toArray, List.getElem_cons_zero, List.getElem_cons_succ, List.setIfInBounds_toArray, List.set_cons_zero, List.set_cons_succ])
      refine wpDet_take (.agg (nums .u32 (qI (xr st (qW tk))))) (fun _ _ h hb => h.below hb) (fun _ h => h) (i := 4) rfl (by kernel_rfl) (by kernel_rfl) (by kernel_rfl) (by kernel_rfl) (fun _ _ _ h => h) (Gives.call 22 #[(.agg (nums .u32 (qI st))), (.agg (nums .u32 (qI (qW tk))))] (by rfl) (fun _ => by first | (go_simp; done) | (go_simp; rfl)) (fun W hW => cX W)) ?_
      (try simp only [Act.put, List.getElem_toArray, List.getElem_cons_zero, List.getElem_cons_succ, List.setIfInBounds_toArray, List.set_cons_zero, List.set_cons_succ])
      refine wpDet_take (.agg (nums .u32 (qI (stirN 12 (xr st (qW tk)))))) (fun _ _ h hb => h.below hb) (fun _ h => h) (i := 5) rfl (by kernel_rfl) (by kernel_rfl) (by kernel_rfl) (by kernel_rfl) (fun _ _ _ h => h) (Gives.call 14 #[(.agg (nums .u32 (qI (xr st (qW tk)))))] (by rfl) (fun _ => by first | (go_simp; done) | (go_simp; rfl)) (fun W hW => cS W)) ?_
      (try simp only [Act.put, List.getElem_toArray, List.getElem_cons_zero, List.getElem_cons_succ, List.setIfInBounds_toArray, List.set_cons_zero, List.set_cons_succ])
      refine wpDet_ready (rs := [6]) (by kernel_rfl) (by simp) (AllDet.cons rfl (fun W hW K hK => ?_) AllDet.nil)
      rw [if_pos (by rfl)]
      refine wp_store_row 35 _ _ rfl (G + 1) (nums .u32 (qI (stirN 12 (xr st (qW tk))))) rfl rfl _ _ (hW.at 3 rfl) hiT rfl (nums_one _ _) ?_
      have hX8 := (hW.at 3 rfl).setRow (qI (stirN 12 (xr st (qW tk))))
      have hK8 := (hW.at 2 rfl).rowOther (G + 1) (nums .u32 (qI (stirN 12 (xr st (qW tk))))) (by omega)
      have hZ8 := (hW.at 1 rfl).rowOther (G + 1) (nums .u32 (qI (stirN 12 (xr st (qW tk))))) (by omega)
      have hY8 := (hW.at 0 rfl).rowOther (G + 1) (nums .u32 (qI (stirN 12 (xr st (qW tk))))) (by omega)
      have hb8 := hW.2.trans (below_setRow W (G + 1) (nums .u32 (qI (stirN 12 (xr st (qW tk))))) (by omega))
      refine hK.out (Hold w [(25, .u8, w.heap.size, List.replicate 16 0), (25, .u8, w.heap.size + 1, List.replicate 16 0), (35, .u32, G, qI k), (35, .u32, G + 1, qI (stirN 12 (xr st (qW tk))))]) _ _ (fun _ _ h hb => h.below hb) (no_lean (by kernel_rfl)) (Hold.cons hY8 (Hold.cons hZ8 (Hold.cons hK8 (Hold.cons hX8 (Hold.nil hb8))))) ?_
      clear hK K hX8 hK8 hZ8 hY8 hb8 hW
      (try simp only [Act.put, List.getElem_toArray, List.getElem_cons_zero, List.getElem_cons_succ, List.setIfInBounds_toArray, List.set_cons_zero, List.set_cons_succ])
      refine wpDet_done (by kernel_rfl) (fun W hW => ?_) _
      have hX8 := hW.at 3 rfl
      have hK8 := hW.at 2 rfl
      have hZ8 := hW.at 1 rfl
      have hY8 := hW.at 0 rfl
      have hb8 := hW.2
      clear hW
      have hd16 : ¬ d = 16 := by omega
      have hm16 : 16 ≤ m := by omega
      have hm17 : (16 : Int) ≤ (m : Int) := by omega
      go_wp2_with fail
      go_roundw
      case rel => exact ⟨_, _, _, _, _, j + 1, by go_num, rfl, hcut, hbr2, hst2, hX8, hK8, hY8, hZ8, hb8, hmj2, hab2, hre2⟩
      case measure => simp [slen]; omega
    · have hm1 : (m : Int) ≤ 16 := by omega
      by_cases hj : j < n / 16
      · have hj1 : (j : Int) < (n : Int) / 16 := by omega
        have hj3 : decide ((j : Int) < (n : Int) / 16) = true := decide_eq_true hj1
        have hrest : Hid (absorb k (ahead n) l = st ∧ l.drop (16 * ahead n) = r) := by
          have h1 := hab.out
          have h2 := hre.out
          have h3 : ahead m = 0 := by unfold ahead; omega
          rw [h3] at h1 h2
          exact ⟨h1.symm, h2.symm⟩
        have hrm := hq.len
        clear hab hre
        go_wp2_with (refine wpList_load_row rfl 35 _ rfl G rfl _ _ _ _ hK Try.underlying35 rfl hi ?_)
        refine (double_any k wr hqk).mono ?_
        rintro e w2 ⟨rfl, hb2⟩
        have hS2 := hS.below hb2
        have hZ42 := hZ4.below hb2
        have hZ62 := hZ6.below hb2
        have hbb2 := hb.trans (hb2.mono hb.size)
        have hlt2 : G + 1 < w2.heap.size := hS2.lt
        clear hb2 hS hZ4 hZ6 hb hK
        have hiE := info_nums .u32 (qI (dbl k)) infoQ rfl
        have hzE : (nums .u32 [0, 0, 0, 0]).size = (nums .u32 (qI (dbl k))).size := rfl
        have hY : ArrI 35 .u32 (w2.alloc (.cells #[.int .u32 0, .int .u32 0, .int .u32 0, .int .u32 0] 35)) w2.heap.size [0, 0, 0, 0] := ArrI.new 35 .u32 w2 [0, 0, 0, 0]
        have hE3 := hY.setRow (qI (dbl k))
        have hS3 := (hS2.alloc (.cells #[.int .u32 0, .int .u32 0, .int .u32 0, .int .u32 0] 35)).rowOther w2.heap.size (nums .u32 (qI (dbl k))) (by omega)
        have hZ43 := (hZ42.alloc (.cells #[.int .u32 0, .int .u32 0, .int .u32 0, .int .u32 0] 35)).rowOther w2.heap.size (nums .u32 (qI (dbl k))) (by omega)
        have hZ63 := (hZ62.alloc (.cells #[.int .u32 0, .int .u32 0, .int .u32 0, .int .u32 0] 35)).rowOther w2.heap.size (nums .u32 (qI (dbl k))) (by omega)
        have hbb3 := (hbb2.alloc hbb2.size (.cells #[.int .u32 0, .int .u32 0, .int .u32 0, .int .u32 0] 35)).trans (below_setRow _ w2.heap.size (nums .u32 (qI (dbl k))) (by omega))
        have hsz3 : ((w2.alloc (.cells #[.int .u32 0, .int .u32 0, .int .u32 0, .int .u32 0] 35)).setRow w2.heap.size (nums .u32 (qI (dbl k)))).heap.size = w2.heap.size + 1 := by simp
        obtain ⟨i0, hi0, hz0, hz1, hz2⟩ := info_parts infoZ
        clear hS2 hZ42 hZ62 hbb2
        go_wp2_with (first | refine wpList_store_row rfl 35 _ _ rfl w2.heap.size (nums .u32 (qI (dbl k))) rfl rfl _ _ hY hiE hzE (nums_one _ _) ?_ | refine wpList_app _ rfl (.tmp 40) (.tmp 41) 22 rfl .u8 5 i0 (.int .u8 0) 1 Try.underlying22 hi0 hz0 hz1 hz2 rfl (w2.heap.size + 1) _ _ _ [] rfl (Ow.empty _ _ _ _ _) q m d r rfl (hq.below ?bwq1) ?c1q1 ?c2q1 ?c3q1 ?_)
        case bwq1 => exact hbb3.alloc hbb3.size _
        case c1q1 => (first | done | omega)
        case c2q1 => unfold maxLen; omega
        case c3q1 => (simp <;> omega)
        intro lp lc w4 ho4 hb4
        have hbA := ((Below.refl (w2.heap.size + 1) _).alloc (Nat.le_of_eq hsz3.symm) (.cells #[] 5)).trans hb4
        have hS4 := hS3.belowOf hbA (by omega)
        have hE4 := hE3.belowOf hbA (by omega)
        have hZ44 := hZ43.belowOf hbA (by omega)
        have hZ64 := hZ63.belowOf hbA (by omega)
        have hbb4 := hbb3.trans (hbA.mono (by omega))
        have hsz4 : w2.heap.size + 1 ≤ w4.heap.size := by have h1 := hbA.size; omega
        clear hS3 hE3 hZ43 hZ63 hbb3 hbA hb4 hsz3 hY
        generalize w2.heap.size = G9 at hlt2 ho4 hS4 hE4 hZ44 hZ64 hbb4 hsz4 ⊢
        go_upto_if 45 with fail
        go_cut [10] from 45 (fun v wx => ∃ lp len lc xs, v = .slice lp len lc ∧ Ow .u8 5 wx (G9 + 1) lp len lc xs ∧ len ≤ 16 ∧ Hid (xs ++ List.replicate (16 - len) 0 = fillL r) ∧ ArrI 35 .u32 wx (G + 1) (qI st) ∧ ArrI 35 .u32 wx G9 (qI (endW k r)) ∧ ArrI 25 .u8 wx w.heap.size (List.replicate 16 0) ∧ ArrI 25 .u8 wx (w.heap.size + 1) (List.replicate 16 0) ∧ Below w.heap.size w wx ∧ (G9 + 1) ≤ wx.heap.size)
        case first =>
            have h16 : ¬ m < 16 := by omega
            have hm3 : ¬ (m : Int) < 16 := by omega
            have hend : endW k r = dbl k := by unfold endW; rw [if_neg (by omega)]
            have hfil : r ++ List.replicate (16 - m) 0 = fillL r := by
              unfold fillL
              rw [if_neg (by omega), show 16 - m = 0 by omega]
              simp
            go_wp2_with fail
            go_meet
            case rel => exact ⟨lp, m, lc, r, rfl, ho4, by omega, hfil, hS4, by rw [hend]; exact hE4, hZ44, hZ64, hbb4, hsz4⟩
        case rest =>
          clear hS4 hE4 hZ44 hZ64 ho4 hbb4 hsz4
          obtain ⟨lp, len, lc, xs, rfl, ho, hlen, hfil, hS, hE, hZ4, hZ6, hb, hsz⟩ := hcut
          have hEq : Qd (endW k r) := by
            unfold endW
            split
            · exact dbl_lt (dbl_lt hqk)
            · exact dbl_lt hqk
          have hfb := fill_by hbr
          have hfl := fill_len (l := r) (by omega)
          have hdg2 : Hid (digest kl l = qB (xr (stirN 12 (xr (xr st (qW (fillL r))) (endW k r))) (endW k r))) := by
            have h1 := hdg.out
            rw [hrest.out.1, hrest.out.2] at h1
            exact h1
          clear hdg hrest
          generalize endW k r = E at hE hEq hdg2
          generalize fillL r = F at hfb hfl hfil hdg2
          go_wp2_with fail
          go_loopw [10] (fun v wx => ∃ lp len lc xs, v = .slice lp len lc ∧ Ow .u8 5 wx (G9 + 1) lp len lc xs ∧ len ≤ 16 ∧ Hid (xs ++ List.replicate (16 - len) 0 = F) ∧ ArrI 35 .u32 wx (G + 1) (qI st) ∧ ArrI 35 .u32 wx G9 (qI E) ∧ ArrI 25 .u8 wx w.heap.size (List.replicate 16 0) ∧ ArrI 25 .u8 wx (w.heap.size + 1) (List.replicate 16 0) ∧ Below w.heap.size w wx ∧ G9 + 1 ≤ wx.heap.size) (fun v _ => 16 - slen v)
          case atStart => exact ⟨lp, len, lc, xs, rfl, ho, hlen, hfil, hS, hE, hZ4, hZ6, hb, hsz⟩
          case round =>
            clear hS hE hZ4 hZ6 hb hsz ho hfil
            obtain ⟨lp, len, lc, xs, rfl, ho, hlen, hfil, hS, hE, hZ4, hZ6, hb, hsz⟩ := hrel
            by_cases h16 : len < 16
            · have hm3 : (len : Int) < 16 := by omega
              have hfil2 : Hid (xs ++ [0] ++ List.replicate (16 - (len + 1)) 0 = F) := by
                have h1 := hfil.out
                rw [show 16 - len = (16 - (len + 1)) + 1 by omega, List.replicate_succ] at h1
                show _ = _
                rw [← h1, List.append_assoc]
                rfl
              clear hfil
              go_wp2_with (refine wpList_app _ rfl (.tmp 54) (.tmp 55) 22 rfl .u8 5 i0 (.int .u8 0) 1 Try.underlying22 hi0 hz0 hz1 hz2 rfl (G9 + 1) _ _ _ xs rfl (ho.below (below_alloc _ _)) _ _ _ _ rfl (Rd.one _ _ _ _) ?c1q2 ?c2q2 ?c3q2 ?_)
              case c1q2 => omega
              case c2q2 => unfold maxLen; omega
              case c3q2 => (simp <;> omega)
              intro lp2 lc2 w7 ho7 hb7
              have hbA := ((Below.refl (G9 + 1) _).alloc hsz (.cells #[.int .u8 0] 5)).trans hb7
              have hS7 := hS.belowOf hbA (by omega)
              have hE7 := hE.belowOf hbA (by omega)
              have hZ47 := hZ4.belowOf hbA (by omega)
              have hZ67 := hZ6.belowOf hbA (by omega)
              have hbb7 := hb.trans (hbA.mono (by omega))
              have hsz7 : G9 + 1 ≤ w7.heap.size := Nat.le_trans hsz hbA.size
              clear hS hE hZ4 hZ6 hb hsz ho hb7 hbA
              go_wp2_with fail
              go_roundw
              case rel => exact ⟨lp2, len + 1, lc2, xs ++ [0], rfl, ho7, by omega, hfil2, hS7, hE7, hZ47, hZ67, hbb7, hsz7⟩
              case measure => simp [slen]; omega
            · obtain rfl : len = 16 := by omega
              obtain rfl : xs = F := by
                have h1 := hfil.out
                rw [Nat.sub_self] at h1
                simpa using h1
              have hqf := qW_lt hfb
              have hx1 := xr_lt hst hqf
              have hx2 := xr_lt hx1 hEq
              have hx3 := stirN_lt hx2 12
              have hx4 := xr_lt hx3 hEq
              have hiS := info_nums .u32 (qI st) infoQ rfl
              have hiE3 : (Try.prog.info? 35).map (·.size) = some ((qI E).map (Value.int .u32)).length := infoQ
              have hiF := info_nums .u32 (qI (xr (stirN 12 (xr (xr st (qW xs)) E)) E)) infoQ rfl
              have hlpe : ∃ b o, lp = some ⟨b, o, none⟩ := ho.rd.at (by decide)
              obtain ⟨lb, lo, rfl⟩ := hlpe
              have hO0 : Hold w [(25, .u8, w.heap.size, List.replicate 16 0), (25, .u8, w.heap.size + 1, List.replicate 16 0), (35, .u32, G9, qI E), (35, .u32, G + 1, qI st)] wr ∧ Ow .u8 5 wr (G9 + 1) (some ⟨lb, lo, none⟩) 16 lc xs := ⟨Hold.cons hZ4 (Hold.cons hZ6 (Hold.cons hE (Hold.cons hS (Hold.nil hb)))), ho⟩
              have cF := fun W (hS : Hold w [(25, .u8, w.heap.size, List.replicate 16 0), (25, .u8, w.heap.size + 1, List.replicate 16 0), (35, .u32, G9, qI E), (35, .u32, G + 1, qI st)] W ∧ Ow .u8 5 W (G9 + 1) (some ⟨lb, lo, none⟩) 16 lc xs) => four_any lb lo 16 lc xs W hS.2.rd hfb (Nat.le_refl _)
              have c1 := fun W => xor_any st (qW xs) W hst hqf
              have c2 := fun W => xor_any (xr st (qW xs)) E W hx1 hEq
              have c3 := fun W => stir_any (xr (xr st (qW xs)) E) W hx2
              have c4 := fun W => xor_any (stirN 12 (xr (xr st (qW xs)) E)) E W hx3 hEq
              clear hZ4 hZ6 hE hS hb ho hsz hfil
              go_wp2_with fail
              have hstR : Stays (fun W => Hold w [(25, .u8, w.heap.size, List.replicate 16 0), (25, .u8, w.heap.size + 1, List.replicate 16 0), (35, .u32, G9, qI E), (35, .u32, G + 1, qI st)] W ∧ Ow .u8 5 W (G9 + 1) (some ⟨lb, lo, none⟩) 16 lc xs) := fun _ _ h hb => ⟨h.1.below hb, h.2.below hb⟩
              have hO1 : Hold w [(25, .u8, w.heap.size, List.replicate 16 0), (25, .u8, w.heap.size + 1, List.replicate 16 0), (35, .u32, G9, qI E), (35, .u32, G + 1, qI st)] wr.drew ∧ Ow .u8 5 wr.drew (G9 + 1) (some ⟨lb, lo, none⟩) 16 lc xs := ⟨hO0.1.drew, hO0.2.below (Below.refl _ _).drew⟩
              refine wp_region_det [0, 1, 2, 3, 4, 5, 6, 7, 8] (fun W => Hold w [(25, .u8, w.heap.size, List.replicate 16 0), (25, .u8, w.heap.size + 1, List.replicate 16 0), (35, .u32, G9, qI E), (35, .u32, G + 1, qI st)] W ∧ Ow .u8 5 W (G9 + 1) (some ⟨lb, lo, none⟩) 16 lc xs) (fun W => Hold w [(25, .u8, w.heap.size, List.replicate 16 0), (25, .u8, w.heap.size + 1, List.replicate 16 0), (35, .u32, G9, qI E), (35, .u32, G + 1, qI st)] W ∧ Ow .u8 5 W (G9 + 1) (some ⟨lb, lo, none⟩) 16 lc xs) (by kernel_rfl) hO1 ?_
              refine wpDet_take _ hstR (fun _ h => h) (i := 0) rfl (by kernel_rfl) (by kernel_rfl) (by kernel_rfl) (by kernel_rfl) (fun _ _ _ h => h) (Gives.of_yields (yieldsIf_load_mid (by rfl) _ _ rfl _ _ rfl _ _ (fun _ h => (h.1.at 3 rfl).range) Try.underlying35 rfl hiS)) ?_
              (try simp only [Act.put, List.getElem_toArray, List.getElem_cons_zero, List.getElem_cons_succ, List.setIfInBounds_toArray, List.set_cons_zero, List.set_cons_succ])
              refine wpDet_take ?vR11 hstR (fun _ h => h) (i := 1) rfl (by kernel_rfl) (by kernel_rfl) (by kernel_rfl) (by kernel_rfl) (fun _ _ _ h => h) (Gives.value (by rfl) ?yR11) ?rR11
              case yR11 => (intro w' hSw; (try dsimp only at hSw); go_simp; try with_reducible rfl)
              (try simp only [Act.put, List.getElem_toArray, List.getElem_cons_zero, List.getElem_cons_succ, List.setIfInBounds_toArray, List.set_cons_zero, List.set_cons_succ])
              refine wpDet_take (.agg (nums .u32 (qI (qW xs)))) hstR (fun _ h => h) (i := 2) rfl (by kernel_rfl) (by kernel_rfl) (by kernel_rfl) (by kernel_rfl) (fun _ _ _ h => h) (Gives.call 21 #[.slice (some ⟨lb, lo, none⟩) 16 lc] (by rfl) (fun _ => by first | (go_simp; done) | (go_simp; rfl)) (fun W hW => cF W hW)) ?_
              (try simp only [Act.put, List.getElem_toArray, List.getElem_cons_zero, List.getElem_cons_succ, List.setIfInBounds_toArray, List.set_cons_zero, List.set_cons_succ])
              refine wpDet_take (.agg (nums .u32 (qI (xr st (qW xs))))) hstR (fun _ h => h) (i := 3) rfl (by kernel_rfl) (by kernel_rfl) (by kernel_rfl) (by kernel_rfl) (fun _ _ _ h => h) (Gives.call 22 #[(.agg (nums .u32 (qI st))), (.agg (nums .u32 (qI (qW xs))))] (by rfl) (fun _ => by first | (go_simp; done) | (go_simp; rfl)) (fun W hW => c1 W)) ?_
              (try simp only [Act.put, List.getElem_toArray, List.getElem_cons_zero, List.getElem_cons_succ, List.setIfInBounds_toArray, List.set_cons_zero, List.set_cons_succ])
              refine wpDet_take _ hstR (fun _ h => h) (i := 4) rfl (by kernel_rfl) (by kernel_rfl) (by kernel_rfl) (by kernel_rfl) (fun _ _ _ h => h) (Gives.of_yields (yieldsIf_load_mid (by rfl) _ _ rfl _ _ rfl _ _ (fun _ h => (h.1.at 2 rfl).range) Try.underlying35 rfl hiE3)) ?_
              (try simp only [Act.put, List.getElem_toArray, List.getElem_cons_zero, List.getElem_cons_succ, List.setIfInBounds_toArray, List.set_cons_zero, List.set_cons_succ])
              refine wpDet_take (.agg (nums .u32 (qI (xr (xr st (qW xs)) E)))) hstR (fun _ h => h) (i := 5) rfl (by kernel_rfl) (by kernel_rfl) (by kernel_rfl) (by kernel_rfl) (fun _ _ _ h => h) (Gives.call 22 #[(.agg (nums .u32 (qI (xr st (qW xs))))), (.agg (nums .u32 (qI E)))] (by rfl) (fun _ => by first | (go_simp; done) | (go_simp; rfl)) (fun W hW => c2 W)) ?_
              (try simp only [Act.put, List.getElem_toArray, List.getElem_cons_zero, List.getElem_cons_succ, List.setIfInBounds_toArray, List.set_cons_zero, List.set_cons_succ])
              refine wpDet_take (.agg (nums .u32 (qI (stirN 12 (xr (xr st (qW xs)) E))))) hstR (fun _ h => h) (i := 6) rfl (by kernel_rfl) (by kernel_rfl) (by kernel_rfl) (by kernel_rfl) (fun _ _ _ h => h) (Gives.call 14 #[(.agg (nums .u32 (qI (xr (xr st (qW xs)) E))))] (by rfl) (fun _ => by first | (go_simp; done) | (go_simp; rfl)) (fun W hW => c3 W)) ?_
              (try simp only [Act.put, List.getElem_toArray, List.getElem_cons_zero, List.getElem_cons_succ, List.setIfInBounds_toArray, List.set_cons_zero, List.set_cons_succ])
              refine wpDet_take _ hstR (fun _ h => h) (i := 7) rfl (by kernel_rfl) (by kernel_rfl) (by kernel_rfl) (by kernel_rfl) (fun _ _ _ h => h) (Gives.of_yields (yieldsIf_load_mid (by rfl) _ _ rfl _ _ rfl _ _ (fun _ h => (h.1.at 2 rfl).range) Try.underlying35 rfl hiE3)) ?_
              (try simp only [Act.put, List.getElem_toArray, List.getElem_cons_zero, List.getElem_cons_succ, List.setIfInBounds_toArray, List.set_cons_zero, List.set_cons_succ])
              refine wpDet_take (.agg (nums .u32 (qI (xr (stirN 12 (xr (xr st (qW xs)) E)) E)))) hstR (fun _ h => h) (i := 8) rfl (by kernel_rfl) (by kernel_rfl) (by kernel_rfl) (by kernel_rfl) (fun _ _ _ h => h) (Gives.call 22 #[(.agg (nums .u32 (qI (stirN 12 (xr (xr st (qW xs)) E))))), (.agg (nums .u32 (qI E)))] (by rfl) (fun _ => by first | (go_simp; done) | (go_simp; rfl)) (fun W hW => c4 W)) ?_
              (try simp only [Act.put, List.getElem_toArray, List.getElem_cons_zero, List.getElem_cons_succ, List.setIfInBounds_toArray, List.set_cons_zero, List.set_cons_succ])
              refine wpDet_ready (rs := [9]) (by kernel_rfl) (by simp) (AllDet.cons rfl (fun W hW K hK => ?_) AllDet.nil)
              rw [if_pos (by rfl)]
              refine wp_store_row 35 _ _ rfl (G + 1) (nums .u32 (qI (xr (stirN 12 (xr (xr st (qW xs)) E)) E))) rfl rfl _ _ (hW.1.at 3 rfl) hiF rfl (nums_one _ _) ?_
              have hX8 := (hW.1.at 3 rfl).setRow (qI (xr (stirN 12 (xr (xr st (qW xs)) E)) E))
              have hZ8 := (hW.1.at 1 rfl).rowOther (G + 1) (nums .u32 (qI (xr (stirN 12 (xr (xr st (qW xs)) E)) E))) (by omega)
              have hY8 := (hW.1.at 0 rfl).rowOther (G + 1) (nums .u32 (qI (xr (stirN 12 (xr (xr st (qW xs)) E)) E))) (by omega)
              have hb8 := hW.1.2.trans (below_setRow W (G + 1) (nums .u32 (qI (xr (stirN 12 (xr (xr st (qW xs)) E)) E))) (by omega))
              refine hK.out (fun W => ArrI 35 .u32 W (G + 1) (qI (xr (stirN 12 (xr (xr st (qW xs)) E)) E)) ∧ ArrI 25 .u8 W w.heap.size (List.replicate 16 0) ∧ ArrI 25 .u8 W (w.heap.size + 1) (List.replicate 16 0) ∧ Below w.heap.size w W) _ _ (fun _ _ h hb => ⟨h.1.below hb, h.2.1.below hb, h.2.2.1.below hb, h.2.2.2.trans (hb.mono h.2.2.2.size)⟩) (no_lean (by kernel_rfl)) ⟨hX8, hY8, hZ8, hb8⟩ ?_
              clear hK K hX8 hZ8 hY8 hb8 hW
              (try simp only [Act.put, List.getElem_toArray, List.getElem_cons_zero, List.getElem_cons_succ, List.setIfInBounds_toArray, List.set_cons_zero, List.set_cons_succ])
              refine wpDet_done (by kernel_rfl) (fun w9 hW => ?_) _
              · obtain ⟨hX9, hY9, hZ9, hb9⟩ := hW
                generalize hFN : xr (stirN 12 (xr (xr st (qW xs)) E)) E = FN at hX9 hx4 hdg2
                clear hFN cF c1 c2 c3 c4 hO0 hO1 hstR hx1 hx2 hx3 hiF hiS
                go_wp2_with fail
                go_loopw [66] (fun i wr => ∃ a : Nat, a ≤ 4 ∧ i = .int .i64 a ∧ ArrI 25 .u8 wr (w.heap.size + 1) (byL FN (4 * a)) ∧ ArrI 35 .u32 wr (G + 1) (qI FN) ∧ ArrI 25 .u8 wr w.heap.size (List.replicate 16 0) ∧ Below w.heap.size w wr) (fun i _ => 4 - (intOf i).toNat)
                case atStart => exact ⟨0, by omega, rfl, hZ9, hX9, hY9, hb9⟩
                case round =>
                  clear hX9 hY9 hZ9 hb9
                  obtain ⟨a, ha, rfl, hO, hX, hY, hb⟩ := hrel
                  by_cases ha4 : a < 4
                  · have hc := hX.cell (i := a) ha4
                    obtain ⟨x, hx, hxl⟩ := qI_word hx4 a ha4
                    rw [hx] at hc
                    have ha5 : (a : Int) < 4 := by omega
                    go_wp2_with fail
                    go_loopw [12, 72] (fun v i wr => ∃ t : Nat, t ≤ 4 ∧ i = .int .i64 t ∧ v = .int .u32 ((x / 256 ^ t : Nat) : Int) ∧ ArrI 25 .u8 wr (w.heap.size + 1) (byL FN (4 * a + t)) ∧ ArrI 35 .u32 wr (G + 1) (qI FN) ∧ ArrI 25 .u8 wr w.heap.size (List.replicate 16 0) ∧ Below w.heap.size w wr) (fun _ i _ => 4 - (intOf i).toNat)
                    case atStart => exact ⟨0, by omega, rfl, by simp, hO, hX, hY, hb⟩
                    case round =>
                      clear hO hX hY hb hc
                      obtain ⟨t, ht, rfl, rfl, hO, hX, hY, hb⟩ := hrel
                      by_cases ht4 : t < 4
                      · have hd := hO.cell (i := 4 * a + t) (by rw [byL_len]; omega)
                        have hf := hO.free (4 * a + t)
                        have hO2 := hO.set (4 * a + t) ((qB FN).getD (4 * a + t) 0)
                        rw [byL_set] at hO2
                        have hst3 := qB_get FN (4 * a + t) (by omega)
                        rw [show (4 * a + t) / 4 = a by omega, show (4 * a + t) % 4 = t by omega, hx, pow_cast, ← Int.natCast_ediv, Nat.mul_comm t 8, Nat.pow_mul] at hst3
                        have hst4 : ((x / 256 ^ t : Nat) : Int) % 256 = (qB FN).getD (4 * a + t) 0 := hst3.symm
                        have hnx : ((x / 256 ^ t : Nat) : Int) / 256 = ((x / 256 ^ (t + 1) : Nat) : Int) := by
                          rw [Nat.pow_succ, ← Nat.div_div_eq_div_mul]
                          omega
                        have hlt : x / 256 ^ t < 4294967296 := Nat.lt_of_le_of_lt (Nat.div_le_self _ _) hxl
                        obtain ⟨y, hy⟩ : ∃ y : Nat, y = 4 * a + t := ⟨_, rfl⟩
                        have hy1 : 4 * (a : Int) + (t : Int) = (y : Int) := by omega
                        have hy2 : (y : Int) < 16 := by omega
                        have HY : Hid (4 * a + (t + 1) = y + 1) := by show _ = _; omega
                        rw [← hy] at hd hf hO2 hst4
                        generalize (qB FN).getD y 0 = z at hst4 hO2
                        generalize (byL FN y).getD y 0 = old at hd
                        obtain ⟨x2, hx2⟩ : ∃ x2, x2 = x / 256 ^ (t + 1) := ⟨_, rfl⟩
                        rw [← hx2] at hnx
                        have HX2 : Hid (x2 = x / 256 ^ (t + 1)) := hx2
                        generalize x / 256 ^ t = xt at hst4 hnx hlt
                        have ht5 : (t : Int) < 4 := by omega
                        have hX3 := hX.other (w.heap.size + 1) y (.int .u8 z) (by omega)
                        have hY3 := hY.other (w.heap.size + 1) y (.int .u8 z) (by omega)
                        have hb3 := hb.setCell (p := ⟨w.heap.size + 1, y, none⟩) (show w.heap.size ≤ w.heap.size + 1 by omega) (.int .u8 z)
                        clear hO hX hY hb hx2 hst3 hy hx
                        go_wp2_with fail
                        generalize wr.setCell ⟨w.heap.size + 1, y, none⟩ (.int .u8 z) = W1 at hO2 hX3 hY3 hb3 ⊢
                        go_roundw
                        case rel => exact ⟨t + 1, by omega, by go_num, by rw [HX2.out], by rw [HY.out]; exact hO2, hX3, hY3, hb3⟩
                        case measure => simp [intOf]; omega
                      · obtain rfl : t = 4 := by omega
                        go_wp2_with fail
                        go_roundw
                        case rel => exact ⟨a + 1, by omega, by go_num, hO, hX, hY, hb⟩
                        case measure => simp [intOf]; omega
                  · obtain rfl : a = 4 := by omega
                    have hO2 : ArrI 25 .u8 wr (w.heap.size + 1) (qB FN) := hO
                    have hiD := info_nums .u8 (qB FN) infoB rfl
                    have hzD : (nums .u8 (List.replicate 16 0)).size = (nums .u8 (qB FN)).size := rfl
                    have hY2 := hY.setRow (qB FN)
                    have hb2 := hb.trans (below_setRow wr w.heap.size (nums .u8 (qB FN)) (Nat.le_refl _))
                    go_wp2_with (first | refine wpList_load_row rfl 25 _ rfl (w.heap.size + 1) rfl _ _ _ _ hO2 Try.underlying25 rfl hiD ?_ | refine wpList_store_row rfl 25 _ _ rfl w.heap.size (nums .u8 (qB FN)) rfl rfl _ _ hY hiD hzD (nums_one _ _) ?_)
                    exact bodyPost_ret (results_row_tmp (p := 4) (u := 5) rfl _ _ w.heap.size _ _ _ rfl hY2 Try.underlying25 rfl hiD) rfl ⟨by rw [hdg2.out]; rfl, hb2⟩
      · have hj1 : ¬ (j : Int) < (n : Int) / 16 := by omega
        have hj3 : decide ((j : Int) < (n : Int) / 16) = false := decide_eq_false hj1
        have hrest : Hid (absorb k (ahead n) l = st ∧ l.drop (16 * ahead n) = r) := by
          have h1 := hab.out
          have h2 := hre.out
          have h3 : ahead m = 0 := by unfold ahead; omega
          rw [h3] at h1 h2
          exact ⟨h1.symm, h2.symm⟩
        have hrm := hq.len
        clear hab hre
        go_wp2_with (refine wpList_load_row rfl 35 _ rfl G rfl _ _ _ _ hK Try.underlying35 rfl hi ?_)
        refine (double_any k wr hqk).mono ?_
        rintro e w2 ⟨rfl, hb2⟩
        have hS2 := hS.below hb2
        have hZ42 := hZ4.below hb2
        have hZ62 := hZ6.below hb2
        have hbb2 := hb.trans (hb2.mono hb.size)
        have hlt2 : G + 1 < w2.heap.size := hS2.lt
        clear hb2 hS hZ4 hZ6 hb hK
        have hiE := info_nums .u32 (qI (dbl k)) infoQ rfl
        have hzE : (nums .u32 [0, 0, 0, 0]).size = (nums .u32 (qI (dbl k))).size := rfl
        have hY : ArrI 35 .u32 (w2.alloc (.cells #[.int .u32 0, .int .u32 0, .int .u32 0, .int .u32 0] 35)) w2.heap.size [0, 0, 0, 0] := ArrI.new 35 .u32 w2 [0, 0, 0, 0]
        have hE3 := hY.setRow (qI (dbl k))
        have hS3 := (hS2.alloc (.cells #[.int .u32 0, .int .u32 0, .int .u32 0, .int .u32 0] 35)).rowOther w2.heap.size (nums .u32 (qI (dbl k))) (by omega)
        have hZ43 := (hZ42.alloc (.cells #[.int .u32 0, .int .u32 0, .int .u32 0, .int .u32 0] 35)).rowOther w2.heap.size (nums .u32 (qI (dbl k))) (by omega)
        have hZ63 := (hZ62.alloc (.cells #[.int .u32 0, .int .u32 0, .int .u32 0, .int .u32 0] 35)).rowOther w2.heap.size (nums .u32 (qI (dbl k))) (by omega)
        have hbb3 := (hbb2.alloc hbb2.size (.cells #[.int .u32 0, .int .u32 0, .int .u32 0, .int .u32 0] 35)).trans (below_setRow _ w2.heap.size (nums .u32 (qI (dbl k))) (by omega))
        have hsz3 : ((w2.alloc (.cells #[.int .u32 0, .int .u32 0, .int .u32 0, .int .u32 0] 35)).setRow w2.heap.size (nums .u32 (qI (dbl k)))).heap.size = w2.heap.size + 1 := by simp
        obtain ⟨i0, hi0, hz0, hz1, hz2⟩ := info_parts infoZ
        clear hS2 hZ42 hZ62 hbb2
        go_wp2_with (first | refine wpList_store_row rfl 35 _ _ rfl w2.heap.size (nums .u32 (qI (dbl k))) rfl rfl _ _ hY hiE hzE (nums_one _ _) ?_ | refine wpList_app _ rfl (.tmp 40) (.tmp 41) 22 rfl .u8 5 i0 (.int .u8 0) 1 Try.underlying22 hi0 hz0 hz1 hz2 rfl (w2.heap.size + 1) _ _ _ [] rfl (Ow.empty _ _ _ _ _) q m d r rfl (hq.below ?bwq3) ?c1q3 ?c2q3 ?c3q3 ?_)
        case bwq3 => exact hbb3.alloc hbb3.size _
        case c1q3 => (first | done | omega)
        case c2q3 => unfold maxLen; omega
        case c3q3 => (simp <;> omega)
        intro lp lc w4 ho4 hb4
        have hbA := ((Below.refl (w2.heap.size + 1) _).alloc (Nat.le_of_eq hsz3.symm) (.cells #[] 5)).trans hb4
        have hS4 := hS3.belowOf hbA (by omega)
        have hE4 := hE3.belowOf hbA (by omega)
        have hZ44 := hZ43.belowOf hbA (by omega)
        have hZ64 := hZ63.belowOf hbA (by omega)
        have hbb4 := hbb3.trans (hbA.mono (by omega))
        have hsz4 : w2.heap.size + 1 ≤ w4.heap.size := by have h1 := hbA.size; omega
        clear hS3 hE3 hZ43 hZ63 hbb3 hbA hb4 hsz3 hY
        generalize w2.heap.size = G9 at hlt2 ho4 hS4 hE4 hZ44 hZ64 hbb4 hsz4 ⊢
        go_upto_if 45 with fail
        go_cut [10] from 45 (fun v wx => ∃ lp len lc xs, v = .slice lp len lc ∧ Ow .u8 5 wx (G9 + 1) lp len lc xs ∧ len ≤ 16 ∧ Hid (xs ++ List.replicate (16 - len) 0 = fillL r) ∧ ArrI 35 .u32 wx (G + 1) (qI st) ∧ ArrI 35 .u32 wx G9 (qI (endW k r)) ∧ ArrI 25 .u8 wx w.heap.size (List.replicate 16 0) ∧ ArrI 25 .u8 wx (w.heap.size + 1) (List.replicate 16 0) ∧ Below w.heap.size w wx ∧ (G9 + 1) ≤ wx.heap.size)
        case first =>
            have h16 : m < 16 := by omega
            have hm3 : (m : Int) < 16 := by omega
            have hend : endW k r = dbl (dbl k) := by unfold endW; rw [if_pos (by omega)]
            have hiE2 := info_nums .u32 (qI (dbl (dbl k))) infoQ rfl
            have hzF : (nums .u32 (qI (dbl k))).size = (nums .u32 (qI (dbl (dbl k)))).size := rfl
            go_wp2_with (refine wpList_load_row rfl 35 _ rfl G9 rfl _ _ _ _ hE4 Try.underlying35 rfl hiE ?_)
            refine (double_any (dbl k) w4 (dbl_lt hqk)).mono ?_
            rintro e w5 ⟨rfl, hb5⟩
            have hS5 := hS4.below hb5
            have hE5 := hE4.below hb5
            have hZ45 := hZ44.below hb5
            have hZ65 := hZ64.below hb5
            have ho5 := ho4.below hb5
            have hbb5 := hbb4.trans (hb5.mono hbb4.size)
            have hsz5 : G9 + 1 ≤ w5.heap.size := Nat.le_trans hsz4 hb5.size
            clear hS4 hE4 hZ44 hZ64 ho4 hbb4 hsz4 hb5
            have hE6 := hE5.setRow (qI (dbl (dbl k)))
            have hS6 := hS5.rowOther G9 (nums .u32 (qI (dbl (dbl k)))) (by omega)
            have hZ46 := hZ45.rowOther G9 (nums .u32 (qI (dbl (dbl k)))) (by omega)
            have hZ66 := hZ65.rowOther G9 (nums .u32 (qI (dbl (dbl k)))) (by omega)
            have hbb6 := hbb5.trans (below_setRow w5 G9 (nums .u32 (qI (dbl (dbl k)))) (by omega))
            have ho6 := ho5.setRow G9 (nums .u32 (qI (dbl (dbl k)))) (by omega)
            have hsz6 : G9 + 1 ≤ (w5.setRow G9 (nums .u32 (qI (dbl (dbl k))))).heap.size := by rw [setRow_size]; exact hsz5
            clear hS5 hZ45 hZ65 hbb5 ho5
            have hone := Rd.one .u8 (w5.setRow G9 (nums .u32 (qI (dbl (dbl k))))) 5 1
            rw [setRow_size] at hone
            go_wp2_with (first | refine wpList_store_row rfl 35 _ _ rfl G9 (nums .u32 (qI (dbl (dbl k)))) rfl rfl _ _ hE5 hiE2 hzF (nums_one _ _) ?_ | refine wpList_app _ rfl (.tmp 48) (.tmp 49) 22 rfl .u8 5 i0 (.int .u8 0) 1 Try.underlying22 hi0 hz0 hz1 hz2 rfl (G9 + 1) _ _ _ r rfl (ho6.below (below_alloc _ _)) _ _ _ _ rfl hone ?c1q4 ?c2q4 ?c3q4 ?_)
            case c1q4 => (first | done | omega)
            case c2q4 => unfold maxLen; omega
            case c3q4 => (simp <;> omega)
            intro lp2 lc2 w7 ho7 hb7
            have hbA := ((Below.refl (G9 + 1) _).alloc hsz6 (.cells #[.int .u8 1] 5)).trans hb7
            have hS7 := hS6.belowOf hbA (by omega)
            have hE7 := hE6.belowOf hbA (by omega)
            have hZ47 := hZ46.belowOf hbA (by omega)
            have hZ67 := hZ66.belowOf hbA (by omega)
            have hbb7 := hbb6.trans (hbA.mono (by omega))
            have hsz7 : G9 + 1 ≤ w7.heap.size := Nat.le_trans hsz6 hbA.size
            have hfil : r ++ [1] ++ List.replicate (16 - (m + 1)) 0 = fillL r := by unfold fillL; rw [if_pos (by omega), hrm, show 16 - (m + 1) = 15 - m by omega]
            clear hS6 hE6 hZ46 hZ66 hbb6 hsz6 ho6 hb7 hbA hE5
            go_wp2_with fail
            go_meet
            case rel => exact ⟨lp2, m + 1, lc2, r ++ [1], rfl, ho7, by omega, hfil, hS7, by rw [hend]; exact hE7, hZ47, hZ67, hbb7, hsz7⟩
        case rest =>
          clear hS4 hE4 hZ44 hZ64 ho4 hbb4 hsz4
          obtain ⟨lp, len, lc, xs, rfl, ho, hlen, hfil, hS, hE, hZ4, hZ6, hb, hsz⟩ := hcut
          have hEq : Qd (endW k r) := by
            unfold endW
            split
            · exact dbl_lt (dbl_lt hqk)
            · exact dbl_lt hqk
          have hfb := fill_by hbr
          have hfl := fill_len (l := r) (by omega)
          have hdg2 : Hid (digest kl l = qB (xr (stirN 12 (xr (xr st (qW (fillL r))) (endW k r))) (endW k r))) := by
            have h1 := hdg.out
            rw [hrest.out.1, hrest.out.2] at h1
            exact h1
          clear hdg hrest
          generalize endW k r = E at hE hEq hdg2
          generalize fillL r = F at hfb hfl hfil hdg2
          go_wp2_with fail
          go_loopw [10] (fun v wx => ∃ lp len lc xs, v = .slice lp len lc ∧ Ow .u8 5 wx (G9 + 1) lp len lc xs ∧ len ≤ 16 ∧ Hid (xs ++ List.replicate (16 - len) 0 = F) ∧ ArrI 35 .u32 wx (G + 1) (qI st) ∧ ArrI 35 .u32 wx G9 (qI E) ∧ ArrI 25 .u8 wx w.heap.size (List.replicate 16 0) ∧ ArrI 25 .u8 wx (w.heap.size + 1) (List.replicate 16 0) ∧ Below w.heap.size w wx ∧ G9 + 1 ≤ wx.heap.size) (fun v _ => 16 - slen v)
          case atStart => exact ⟨lp, len, lc, xs, rfl, ho, hlen, hfil, hS, hE, hZ4, hZ6, hb, hsz⟩
          case round =>
            clear hS hE hZ4 hZ6 hb hsz ho hfil
            obtain ⟨lp, len, lc, xs, rfl, ho, hlen, hfil, hS, hE, hZ4, hZ6, hb, hsz⟩ := hrel
            by_cases h16 : len < 16
            · have hm3 : (len : Int) < 16 := by omega
              have hfil2 : Hid (xs ++ [0] ++ List.replicate (16 - (len + 1)) 0 = F) := by
                have h1 := hfil.out
                rw [show 16 - len = (16 - (len + 1)) + 1 by omega, List.replicate_succ] at h1
                show _ = _
                rw [← h1, List.append_assoc]
                rfl
              clear hfil
              go_wp2_with (refine wpList_app _ rfl (.tmp 54) (.tmp 55) 22 rfl .u8 5 i0 (.int .u8 0) 1 Try.underlying22 hi0 hz0 hz1 hz2 rfl (G9 + 1) _ _ _ xs rfl (ho.below (below_alloc _ _)) _ _ _ _ rfl (Rd.one _ _ _ _) ?c1q5 ?c2q5 ?c3q5 ?_)
              case c1q5 => omega
              case c2q5 => unfold maxLen; omega
              case c3q5 => (simp <;> omega)
              intro lp2 lc2 w7 ho7 hb7
              have hbA := ((Below.refl (G9 + 1) _).alloc hsz (.cells #[.int .u8 0] 5)).trans hb7
              have hS7 := hS.belowOf hbA (by omega)
              have hE7 := hE.belowOf hbA (by omega)
              have hZ47 := hZ4.belowOf hbA (by omega)
              have hZ67 := hZ6.belowOf hbA (by omega)
              have hbb7 := hb.trans (hbA.mono (by omega))
              have hsz7 : G9 + 1 ≤ w7.heap.size := Nat.le_trans hsz hbA.size
              clear hS hE hZ4 hZ6 hb hsz ho hb7 hbA
              go_wp2_with fail
              go_roundw
              case rel => exact ⟨lp2, len + 1, lc2, xs ++ [0], rfl, ho7, by omega, hfil2, hS7, hE7, hZ47, hZ67, hbb7, hsz7⟩
              case measure => simp [slen]; omega
            · obtain rfl : len = 16 := by omega
              obtain rfl : xs = F := by
                have h1 := hfil.out
                rw [Nat.sub_self] at h1
                simpa using h1
              have hqf := qW_lt hfb
              have hx1 := xr_lt hst hqf
              have hx2 := xr_lt hx1 hEq
              have hx3 := stirN_lt hx2 12
              have hx4 := xr_lt hx3 hEq
              have hiS := info_nums .u32 (qI st) infoQ rfl
              have hiE3 : (Try.prog.info? 35).map (·.size) = some ((qI E).map (Value.int .u32)).length := infoQ
              have hiF := info_nums .u32 (qI (xr (stirN 12 (xr (xr st (qW xs)) E)) E)) infoQ rfl
              have hlpe : ∃ b o, lp = some ⟨b, o, none⟩ := ho.rd.at (by decide)
              obtain ⟨lb, lo, rfl⟩ := hlpe
              have hO0 : Hold w [(25, .u8, w.heap.size, List.replicate 16 0), (25, .u8, w.heap.size + 1, List.replicate 16 0), (35, .u32, G9, qI E), (35, .u32, G + 1, qI st)] wr ∧ Ow .u8 5 wr (G9 + 1) (some ⟨lb, lo, none⟩) 16 lc xs := ⟨Hold.cons hZ4 (Hold.cons hZ6 (Hold.cons hE (Hold.cons hS (Hold.nil hb)))), ho⟩
              have cF := fun W (hS : Hold w [(25, .u8, w.heap.size, List.replicate 16 0), (25, .u8, w.heap.size + 1, List.replicate 16 0), (35, .u32, G9, qI E), (35, .u32, G + 1, qI st)] W ∧ Ow .u8 5 W (G9 + 1) (some ⟨lb, lo, none⟩) 16 lc xs) => four_any lb lo 16 lc xs W hS.2.rd hfb (Nat.le_refl _)
              have c1 := fun W => xor_any st (qW xs) W hst hqf
              have c2 := fun W => xor_any (xr st (qW xs)) E W hx1 hEq
              have c3 := fun W => stir_any (xr (xr st (qW xs)) E) W hx2
              have c4 := fun W => xor_any (stirN 12 (xr (xr st (qW xs)) E)) E W hx3 hEq
              clear hZ4 hZ6 hE hS hb ho hsz hfil
              go_wp2_with fail
              have hstR : Stays (fun W => Hold w [(25, .u8, w.heap.size, List.replicate 16 0), (25, .u8, w.heap.size + 1, List.replicate 16 0), (35, .u32, G9, qI E), (35, .u32, G + 1, qI st)] W ∧ Ow .u8 5 W (G9 + 1) (some ⟨lb, lo, none⟩) 16 lc xs) := fun _ _ h hb => ⟨h.1.below hb, h.2.below hb⟩
              have hO1 : Hold w [(25, .u8, w.heap.size, List.replicate 16 0), (25, .u8, w.heap.size + 1, List.replicate 16 0), (35, .u32, G9, qI E), (35, .u32, G + 1, qI st)] wr.drew ∧ Ow .u8 5 wr.drew (G9 + 1) (some ⟨lb, lo, none⟩) 16 lc xs := ⟨hO0.1.drew, hO0.2.below (Below.refl _ _).drew⟩
              refine wp_region_det [0, 1, 2, 3, 4, 5, 6, 7, 8] (fun W => Hold w [(25, .u8, w.heap.size, List.replicate 16 0), (25, .u8, w.heap.size + 1, List.replicate 16 0), (35, .u32, G9, qI E), (35, .u32, G + 1, qI st)] W ∧ Ow .u8 5 W (G9 + 1) (some ⟨lb, lo, none⟩) 16 lc xs) (fun W => Hold w [(25, .u8, w.heap.size, List.replicate 16 0), (25, .u8, w.heap.size + 1, List.replicate 16 0), (35, .u32, G9, qI E), (35, .u32, G + 1, qI st)] W ∧ Ow .u8 5 W (G9 + 1) (some ⟨lb, lo, none⟩) 16 lc xs) (by kernel_rfl) hO1 ?_
              refine wpDet_take _ hstR (fun _ h => h) (i := 0) rfl (by kernel_rfl) (by kernel_rfl) (by kernel_rfl) (by kernel_rfl) (fun _ _ _ h => h) (Gives.of_yields (yieldsIf_load_mid (by rfl) _ _ rfl _ _ rfl _ _ (fun _ h => (h.1.at 3 rfl).range) Try.underlying35 rfl hiS)) ?_
              (try simp only [Act.put, List.getElem_toArray, List.getElem_cons_zero, List.getElem_cons_succ, List.setIfInBounds_toArray, List.set_cons_zero, List.set_cons_succ])
              refine wpDet_take ?vR21 hstR (fun _ h => h) (i := 1) rfl (by kernel_rfl) (by kernel_rfl) (by kernel_rfl) (by kernel_rfl) (fun _ _ _ h => h) (Gives.value (by rfl) ?yR21) ?rR21
              case yR21 => (intro w' hSw; (try dsimp only at hSw); go_simp; try with_reducible rfl)
              (try simp only [Act.put, List.getElem_toArray, List.getElem_cons_zero, List.getElem_cons_succ, List.setIfInBounds_toArray, List.set_cons_zero, List.set_cons_succ])
              refine wpDet_take (.agg (nums .u32 (qI (qW xs)))) hstR (fun _ h => h) (i := 2) rfl (by kernel_rfl) (by kernel_rfl) (by kernel_rfl) (by kernel_rfl) (fun _ _ _ h => h) (Gives.call 21 #[.slice (some ⟨lb, lo, none⟩) 16 lc] (by rfl) (fun _ => by first | (go_simp; done) | (go_simp; rfl)) (fun W hW => cF W hW)) ?_
              (try simp only [Act.put, List.getElem_toArray, List.getElem_cons_zero, List.getElem_cons_succ, List.setIfInBounds_toArray, List.set_cons_zero, List.set_cons_succ])
              refine wpDet_take (.agg (nums .u32 (qI (xr st (qW xs))))) hstR (fun _ h => h) (i := 3) rfl (by kernel_rfl) (by kernel_rfl) (by kernel_rfl) (by kernel_rfl) (fun _ _ _ h => h) (Gives.call 22 #[(.agg (nums .u32 (qI st))), (.agg (nums .u32 (qI (qW xs))))] (by rfl) (fun _ => by first | (go_simp; done) | (go_simp; rfl)) (fun W hW => c1 W)) ?_
              (try simp only [Act.put, List.getElem_toArray, List.getElem_cons_zero, List.getElem_cons_succ, List.setIfInBounds_toArray, List.set_cons_zero, List.set_cons_succ])
              refine wpDet_take _ hstR (fun _ h => h) (i := 4) rfl (by kernel_rfl) (by kernel_rfl) (by kernel_rfl) (by kernel_rfl) (fun _ _ _ h => h) (Gives.of_yields (yieldsIf_load_mid (by rfl) _ _ rfl _ _ rfl _ _ (fun _ h => (h.1.at 2 rfl).range) Try.underlying35 rfl hiE3)) ?_
              (try simp only [Act.put, List.getElem_toArray, List.getElem_cons_zero, List.getElem_cons_succ, List.setIfInBounds_toArray, List.set_cons_zero, List.set_cons_succ])
              refine wpDet_take (.agg (nums .u32 (qI (xr (xr st (qW xs)) E)))) hstR (fun _ h => h) (i := 5) rfl (by kernel_rfl) (by kernel_rfl) (by kernel_rfl) (by kernel_rfl) (fun _ _ _ h => h) (Gives.call 22 #[(.agg (nums .u32 (qI (xr st (qW xs))))), (.agg (nums .u32 (qI E)))] (by rfl) (fun _ => by first | (go_simp; done) | (go_simp; rfl)) (fun W hW => c2 W)) ?_
              (try simp only [Act.put, List.getElem_toArray, List.getElem_cons_zero, List.getElem_cons_succ, List.setIfInBounds_toArray, List.set_cons_zero, List.set_cons_succ])
              refine wpDet_take (.agg (nums .u32 (qI (stirN 12 (xr (xr st (qW xs)) E))))) hstR (fun _ h => h) (i := 6) rfl (by kernel_rfl) (by kernel_rfl) (by kernel_rfl) (by kernel_rfl) (fun _ _ _ h => h) (Gives.call 14 #[(.agg (nums .u32 (qI (xr (xr st (qW xs)) E))))] (by rfl) (fun _ => by first | (go_simp; done) | (go_simp; rfl)) (fun W hW => c3 W)) ?_
              (try simp only [Act.put, List.getElem_toArray, List.getElem_cons_zero, List.getElem_cons_succ, List.setIfInBounds_toArray, List.set_cons_zero, List.set_cons_succ])
              refine wpDet_take _ hstR (fun _ h => h) (i := 7) rfl (by kernel_rfl) (by kernel_rfl) (by kernel_rfl) (by kernel_rfl) (fun _ _ _ h => h) (Gives.of_yields (yieldsIf_load_mid (by rfl) _ _ rfl _ _ rfl _ _ (fun _ h => (h.1.at 2 rfl).range) Try.underlying35 rfl hiE3)) ?_
              (try simp only [Act.put, List.getElem_toArray, List.getElem_cons_zero, List.getElem_cons_succ, List.setIfInBounds_toArray, List.set_cons_zero, List.set_cons_succ])
              refine wpDet_take (.agg (nums .u32 (qI (xr (stirN 12 (xr (xr st (qW xs)) E)) E)))) hstR (fun _ h => h) (i := 8) rfl (by kernel_rfl) (by kernel_rfl) (by kernel_rfl) (by kernel_rfl) (fun _ _ _ h => h) (Gives.call 22 #[(.agg (nums .u32 (qI (stirN 12 (xr (xr st (qW xs)) E))))), (.agg (nums .u32 (qI E)))] (by rfl) (fun _ => by first | (go_simp; done) | (go_simp; rfl)) (fun W hW => c4 W)) ?_
              (try simp only [Act.put, List.getElem_toArray, List.getElem_cons_zero, List.getElem_cons_succ, List.setIfInBounds_toArray, List.set_cons_zero, List.set_cons_succ])
              refine wpDet_ready (rs := [9]) (by kernel_rfl) (by simp) (AllDet.cons rfl (fun W hW K hK => ?_) AllDet.nil)
              rw [if_pos (by rfl)]
              refine wp_store_row 35 _ _ rfl (G + 1) (nums .u32 (qI (xr (stirN 12 (xr (xr st (qW xs)) E)) E))) rfl rfl _ _ (hW.1.at 3 rfl) hiF rfl (nums_one _ _) ?_
              have hX8 := (hW.1.at 3 rfl).setRow (qI (xr (stirN 12 (xr (xr st (qW xs)) E)) E))
              have hZ8 := (hW.1.at 1 rfl).rowOther (G + 1) (nums .u32 (qI (xr (stirN 12 (xr (xr st (qW xs)) E)) E))) (by omega)
              have hY8 := (hW.1.at 0 rfl).rowOther (G + 1) (nums .u32 (qI (xr (stirN 12 (xr (xr st (qW xs)) E)) E))) (by omega)
              have hb8 := hW.1.2.trans (below_setRow W (G + 1) (nums .u32 (qI (xr (stirN 12 (xr (xr st (qW xs)) E)) E))) (by omega))
              refine hK.out (fun W => ArrI 35 .u32 W (G + 1) (qI (xr (stirN 12 (xr (xr st (qW xs)) E)) E)) ∧ ArrI 25 .u8 W w.heap.size (List.replicate 16 0) ∧ ArrI 25 .u8 W (w.heap.size + 1) (List.replicate 16 0) ∧ Below w.heap.size w W) _ _ (fun _ _ h hb => ⟨h.1.below hb, h.2.1.below hb, h.2.2.1.below hb, h.2.2.2.trans (hb.mono h.2.2.2.size)⟩) (no_lean (by kernel_rfl)) ⟨hX8, hY8, hZ8, hb8⟩ ?_
              clear hK K hX8 hZ8 hY8 hb8 hW
              (try simp only [Act.put, List.getElem_toArray, List.getElem_cons_zero, List.getElem_cons_succ, List.setIfInBounds_toArray, List.set_cons_zero, List.set_cons_succ])
              refine wpDet_done (by kernel_rfl) (fun w9 hW => ?_) _
              · obtain ⟨hX9, hY9, hZ9, hb9⟩ := hW
                generalize hFN : xr (stirN 12 (xr (xr st (qW xs)) E)) E = FN at hX9 hx4 hdg2
                clear hFN cF c1 c2 c3 c4 hO0 hO1 hstR hx1 hx2 hx3 hiF hiS
                go_wp2_with fail
                go_loopw [66] (fun i wr => ∃ a : Nat, a ≤ 4 ∧ i = .int .i64 a ∧ ArrI 25 .u8 wr (w.heap.size + 1) (byL FN (4 * a)) ∧ ArrI 35 .u32 wr (G + 1) (qI FN) ∧ ArrI 25 .u8 wr w.heap.size (List.replicate 16 0) ∧ Below w.heap.size w wr) (fun i _ => 4 - (intOf i).toNat)
                case atStart => exact ⟨0, by omega, rfl, hZ9, hX9, hY9, hb9⟩
                case round =>
                  clear hX9 hY9 hZ9 hb9
                  obtain ⟨a, ha, rfl, hO, hX, hY, hb⟩ := hrel
                  by_cases ha4 : a < 4
                  · have hc := hX.cell (i := a) ha4
                    obtain ⟨x, hx, hxl⟩ := qI_word hx4 a ha4
                    rw [hx] at hc
                    have ha5 : (a : Int) < 4 := by omega
                    go_wp2_with fail
                    go_loopw [12, 72] (fun v i wr => ∃ t : Nat, t ≤ 4 ∧ i = .int .i64 t ∧ v = .int .u32 ((x / 256 ^ t : Nat) : Int) ∧ ArrI 25 .u8 wr (w.heap.size + 1) (byL FN (4 * a + t)) ∧ ArrI 35 .u32 wr (G + 1) (qI FN) ∧ ArrI 25 .u8 wr w.heap.size (List.replicate 16 0) ∧ Below w.heap.size w wr) (fun _ i _ => 4 - (intOf i).toNat)
                    case atStart => exact ⟨0, by omega, rfl, by simp, hO, hX, hY, hb⟩
                    case round =>
                      clear hO hX hY hb hc
                      obtain ⟨t, ht, rfl, rfl, hO, hX, hY, hb⟩ := hrel
                      by_cases ht4 : t < 4
                      · have hd := hO.cell (i := 4 * a + t) (by rw [byL_len]; omega)
                        have hf := hO.free (4 * a + t)
                        have hO2 := hO.set (4 * a + t) ((qB FN).getD (4 * a + t) 0)
                        rw [byL_set] at hO2
                        have hst3 := qB_get FN (4 * a + t) (by omega)
                        rw [show (4 * a + t) / 4 = a by omega, show (4 * a + t) % 4 = t by omega, hx, pow_cast, ← Int.natCast_ediv, Nat.mul_comm t 8, Nat.pow_mul] at hst3
                        have hst4 : ((x / 256 ^ t : Nat) : Int) % 256 = (qB FN).getD (4 * a + t) 0 := hst3.symm
                        have hnx : ((x / 256 ^ t : Nat) : Int) / 256 = ((x / 256 ^ (t + 1) : Nat) : Int) := by
                          rw [Nat.pow_succ, ← Nat.div_div_eq_div_mul]
                          omega
                        have hlt : x / 256 ^ t < 4294967296 := Nat.lt_of_le_of_lt (Nat.div_le_self _ _) hxl
                        obtain ⟨y, hy⟩ : ∃ y : Nat, y = 4 * a + t := ⟨_, rfl⟩
                        have hy1 : 4 * (a : Int) + (t : Int) = (y : Int) := by omega
                        have hy2 : (y : Int) < 16 := by omega
                        have HY : Hid (4 * a + (t + 1) = y + 1) := by show _ = _; omega
                        rw [← hy] at hd hf hO2 hst4
                        generalize (qB FN).getD y 0 = z at hst4 hO2
                        generalize (byL FN y).getD y 0 = old at hd
                        obtain ⟨x2, hx2⟩ : ∃ x2, x2 = x / 256 ^ (t + 1) := ⟨_, rfl⟩
                        rw [← hx2] at hnx
                        have HX2 : Hid (x2 = x / 256 ^ (t + 1)) := hx2
                        generalize x / 256 ^ t = xt at hst4 hnx hlt
                        have ht5 : (t : Int) < 4 := by omega
                        have hX3 := hX.other (w.heap.size + 1) y (.int .u8 z) (by omega)
                        have hY3 := hY.other (w.heap.size + 1) y (.int .u8 z) (by omega)
                        have hb3 := hb.setCell (p := ⟨w.heap.size + 1, y, none⟩) (show w.heap.size ≤ w.heap.size + 1 by omega) (.int .u8 z)
                        clear hO hX hY hb hx2 hst3 hy hx
                        go_wp2_with fail
                        generalize wr.setCell ⟨w.heap.size + 1, y, none⟩ (.int .u8 z) = W1 at hO2 hX3 hY3 hb3 ⊢
                        go_roundw
                        case rel => exact ⟨t + 1, by omega, by go_num, by rw [HX2.out], by rw [HY.out]; exact hO2, hX3, hY3, hb3⟩
                        case measure => simp [intOf]; omega
                      · obtain rfl : t = 4 := by omega
                        go_wp2_with fail
                        go_roundw
                        case rel => exact ⟨a + 1, by omega, by go_num, hO, hX, hY, hb⟩
                        case measure => simp [intOf]; omega
                  · obtain rfl : a = 4 := by omega
                    have hO2 : ArrI 25 .u8 wr (w.heap.size + 1) (qB FN) := hO
                    have hiD := info_nums .u8 (qB FN) infoB rfl
                    have hzD : (nums .u8 (List.replicate 16 0)).size = (nums .u8 (qB FN)).size := rfl
                    have hY2 := hY.setRow (qB FN)
                    have hb2 := hb.trans (below_setRow wr w.heap.size (nums .u8 (qB FN)) (Nat.le_refl _))
                    go_wp2_with (first | refine wpList_load_row rfl 25 _ rfl (w.heap.size + 1) rfl _ _ _ _ hO2 Try.underlying25 rfl hiD ?_ | refine wpList_store_row rfl 25 _ _ rfl w.heap.size (nums .u8 (qB FN)) rfl rfl _ _ hY hiD hzD (nums_one _ _) ?_)
                    exact bodyPost_ret (results_row_tmp (p := 4) (u := 5) rfl _ _ w.heap.size _ _ _ rfl hY2 Try.underlying25 rfl hiD) rfl ⟨by rw [hdg2.out]; rfl, hb2⟩

end Go.Proofs.Ytlmmidlegdmjpaa.M
