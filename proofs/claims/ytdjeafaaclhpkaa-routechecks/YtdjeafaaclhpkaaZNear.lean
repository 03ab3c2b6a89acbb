/-
  Own text: rows of numbers: one number as a slice, slices.Equal over two rows of the same numbers; who is near: contracts of route's near, nodes, Near, Write.
-/
import Derived.Test.YtdjeafaaclhpkaaZSort
namespace Go.Proofs.Ytdjeafaaclhpkaa.M
open Go.ChangeShapes Go.WideShapes Go.ChangeAt Go.RowKit

theorem infoI : (Try.prog.info? 3).map (fun i => (i.zero, i.size, i.bytes)) = some (some (.int .i64 0), 1, 8) := by kernel_rfl

theorem Rd.one (k : IntKind) (w : World) (e : TypeId) (x : Int) : Rd k (w.alloc (.cells #[.int k x] e)) (some ⟨w.heap.size, 0, none⟩) 1 1 [x] := by
  refine ⟨rfl, Nat.le_refl _, (fun h => by cases h), fun _ => ⟨w.heap.size, 0, rfl, fun i hi => ?_⟩⟩
  obtain rfl : i = 0 := by omega
  simp

set_option maxRecDepth 20000 in
set_option maxHeartbeats 1000000 in
theorem equalI_same (p q : Option Addr) (n c d : Nat) (xs : List Int) (w : World) (hp : Rd .i64 w p n c xs) (hq : Rd .i64 w q n d xs) (hn : n ≤ 1099511627776) :
    Calls Try.prog 19 #[.slice p n c, .slice q n d] w fun e w' => e = .returned (.bool true) ∧ Below w.heap.size w w' := by
  go_enter Try.func19, Try.ntmps19
  go_wp2_with fail
  go_loopw [13] (fun i wr => ∃ k : Nat, k ≤ n ∧ i = .int .i64 k ∧ Below w.heap.size w wr) (fun i _ => n - (intOf i).toNat)
  case atStart => exact ⟨0, Nat.zero_le _, rfl, Below.refl _ _⟩
  case round =>
    obtain ⟨k, hk, rfl, hb⟩ := hrel
    by_cases h : k < n
    · obtain ⟨b1, o1, rfl, c1⟩ := (hp.below hb).cells (by omega)
      obtain ⟨b2, o2, rfl, c2⟩ := (hq.below hb).cells (by omega)
      have x1 := c1 k h
      have y1 := c2 k h
      have hk1 : (k : Int) < (n : Int) := by omega
      clear hp hq c1 c2
      generalize xs.getD k 0 = f at *
      go_wp2_with fail
      go_quiet (fail)
      go_wp2_with fail
      go_roundw
      case rel => exact ⟨k + 1, by omega, by go_num, below_drewN hb nq⟩
      case measure => simp [intOf]; omega
    · obtain rfl : k = n := by omega
      clear hp hq
      go_wp2_with fail
      go_ret
      exact ⟨rfl, hb⟩

theorem Ow.far {k : IntKind} {e : TypeId} {w : World} {B : Nat} {p : Option Addr} {n c : Nat} {xs : List Int} (h : Ow k e w B p n c xs) (hn : 0 < n) : ∀ a, p = some a → B ≤ a.block := by
  intro a ha
  subst ha
  rcases h.own with ⟨rfl, _⟩ | ho
  · omega
  · rcases ho.2 with ⟨_, rfl⟩ | ⟨g, cap, cur, hv, hg, _⟩
    · omega
    · injection hv with h1
      injection h1 with h1
      subst h1
      exact hg

set_option maxRecDepth 20000 in
set_option maxHeartbeats 2000000 in
theorem nodes_any (p : Option Addr) (n c : Nat) (ms : List Mb) (w : World) (hr0 : RdM w p n c ms) (hn : n ≤ 1099511627776) :
    Calls Try.prog 31 #[.slice p n c] w fun r w' => ∃ q d, r = .returned (.slice q n d) ∧ Rd .i64 w' q n d (ms.map (·.n)) ∧ (0 < n → ∀ a, q = some a → w.heap.size ≤ a.block) ∧ Below w.heap.size w w' := by
  have hl := hr0.len
  obtain ⟨i0, hi0, hz0, hz1, hz2⟩ := info_parts infoI
  go_enter Try.func31, Try.ntmps31
  go_wp2_with fail
  go_loopw [3, 8] (fun v i wr => ∃ (k : Nat) (q : Option Addr) (d : Nat), k ≤ n ∧ i = .int .i64 k ∧ v = .slice q k d ∧ Ow .i64 3 wr w.heap.size q k d ((ms.take k).map (·.n)) ∧ Below w.heap.size w wr) (fun _ i _ => n - (intOf i).toNat)
  case atStart => exact ⟨0, none, 0, Nat.zero_le _, rfl, rfl, Ow.empty _ _ _ _ _, Below.refl _ _⟩
  case round =>
    obtain ⟨k, q, d, hk, rfl, rfl, ho, hb⟩ := hrel
    by_cases h : k < n
    · obtain ⟨g1, o1, rfl, c1⟩ := (hr0.below hb).cells (by omega)
      obtain ⟨x1, x2, x3⟩ := c1 k h
      have hk1 : (k : Int) < (n : Int) := by omega
      have HS : Hid ((ms.take (k + 1)).map (·.n) = (ms.take k).map (·.n) ++ [(ms.getD k .z0).n]) := by
        unfold Hid
        rw [List.take_add_one, List.map_append, List.getD_eq_getElem?_getD, List.getElem?_eq_getElem (by omega)]
        rfl
      clear c1
      generalize ms.getD k .z0 = f at *
      obtain ⟨fn, fs, ff⟩ := f
      dsimp only at x1 x2 x3 HS
      generalize (ms.take k).map (·.n) = xs at *
      have hba : Below wr.heap.size wr (wr.alloc (.cells #[.int .i64 fn, .int .i64 fs, .bool ff] 36)) := (Below.refl _ _).alloc (Nat.le_refl _) _
      have hoa := ho.below hba
      have hbb := hb.trans (hba.mono hb.size)
      have hb2 : Below (wr.alloc (.cells #[.int .i64 fn, .int .i64 fs, .bool ff] 36)).heap.size (wr.alloc (.cells #[.int .i64 fn, .int .i64 fs, .bool ff] 36)) ((wr.alloc (.cells #[.int .i64 fn, .int .i64 fs, .bool ff] 36)).alloc (.cells #[.int .i64 fn] 3)) := (Below.refl _ _).alloc (Nat.le_refl _) _
      have hob := hoa.below hb2
      have hbc := hbb.trans (hb2.mono hbb.size)
      have hone := Rd.one .i64 (wr.alloc (.cells #[.int .i64 fn, .int .i64 fs, .bool ff] 36)) 3 fn
      have hsa : (wr.alloc (.cells #[.int .i64 fn, .int .i64 fs, .bool ff] 36)).heap.size = wr.heap.size + 1 := by simp
      rw [hsa] at hone
      clear hsa
      go_wp2_with (at_builtin; refine wpList_app _ rfl (.tmp 12) (.tmp 15) 37 rfl .i64 3 i0 (.int .i64 0) 8 Try.underlying37 hi0 hz0 hz1 hz2 rfl w.heap.size q k d xs rfl hob (some ⟨wr.heap.size + 1, 0, none⟩) 1 1 [fn] rfl hone (by omega) (by unfold maxLen; omega) hbc.size ?_)
      intro p2 c2 w2 ho2 hb3
      go_wp2_with fail
      go_roundw
      case rel => exact ⟨k + 1, p2, c2, by omega, by go_num, rfl, by rw [HS.out]; exact ho2, hbc.trans hb3⟩
      case measure => simp [intOf]; omega
    · obtain rfl : k = n := by omega
      have hki : ¬ (k : Int) < (k : Int) := by omega
      rw [List.take_of_length_le (by omega)] at ho
      have hrd := ho.rd
      have hfar := ho.far
      clear ho
      go_wp2_with fail
      go_ret
      exact ⟨q, d, rfl, hrd, hfar, hb⟩

set_option maxRecDepth 20000 in
set_option maxHeartbeats 2000000 in
theorem near_any (a0 a1 a2 a3 a4 a5 a6 a7 a8 : Int) (i0 : Nat) (hi0 : i0 < 3) (p : Option Addr) (n c : Nat) (ms : List Mb) (hs : ∀ m ∈ ms, atSite m) (w : World) (hr : RdM w p n c ms) (hn : n < 20) (hpos : 0 < n) :
    Calls Try.prog 32 #[.agg #[.int .i64 a0, .int .i64 a1, .int .i64 a2, .int .i64 a3, .int .i64 a4, .int .i64 a5, .int .i64 a6, .int .i64 a7, .int .i64 a8, .int .i64 (i0 : Int)], .slice p n c] w fun r w' => ∃ q d, r = .returned (.slice q n d) ∧ RdM w' q n d (srt (nrC [a0, a1, a2, a3, a4, a5, a6, a7, a8] i0) ms) ∧ Below w.heap.size w w' := by
  have hA0 : ArrI 57 .i64 (w.alloc (.cells #[.int .i64 a0, .int .i64 a1, .int .i64 a2, .int .i64 a3, .int .i64 a4, .int .i64 a5, .int .i64 a6, .int .i64 a7, .int .i64 a8, .int .i64 (i0 : Int)] 57)) w.heap.size [a0, a1, a2, a3, a4, a5, a6, a7, a8, (i0 : Int)] := ArrI.new 57 .i64 w [a0, a1, a2, a3, a4, a5, a6, a7, a8, (i0 : Int)]
  have hb0 : Below w.heap.size w (w.alloc (.cells #[.int .i64 a0, .int .i64 a1, .int .i64 a2, .int .i64 a3, .int .i64 a4, .int .i64 a5, .int .i64 a6, .int .i64 a7, .int .i64 a8, .int .i64 (i0 : Int)] 57)) := (Below.refl _ _).alloc (Nat.le_refl _) _
  have hl := hr.len
  have hCl := cloneM_any p n c ms _ (hr.below hb0) (by omega)
  have HSr : Hid (outC (nrC [a0, a1, a2, a3, a4, a5, a6, a7, a8] i0) 0 (ms.length - 1) 1 ms = srt (nrC [a0, a1, a2, a3, a4, a5, a6, a7, a8] i0) ms) := outC_srt _ _
  have HSL : Hid ((srt (nrC [a0, a1, a2, a3, a4, a5, a6, a7, a8] i0) ms).length = ms.length) := srt_len _ _
  clear hr
  go_enter Try.func32, Try.ntmps32
  go_wp2_with fail
  refine hCl.mono ?_
  rintro r w1 ⟨v, rfl, hcp, hb1⟩
  rcases hcp with ⟨h0, _⟩ | ⟨_, ho⟩
  · omega
  obtain ⟨g, N, rfl, hg, hR⟩ := Row.of_owns ho hl hpos
  have hA1 := hA0.below hb1
  have hbb := hb0.trans (hb1.mono hb0.size)
  have hSo := sortNear_any a0 a1 a2 a3 a4 a5 a6 a7 a8 i0 hi0 w1 g N ms hR (by omega) hs
  rw [hl, ← hl, HSr.out] at hSo
  obtain ⟨c0, c1, c2, c3, c4, c5, c6, c7, c8, c9⟩ := ten hA1
  have hg2 : w.heap.size ≤ g := Nat.le_trans hb0.size hg
  subst hl
  clear hCl ho hA0 hA1 hb0 hb1 HSr
  go_wp2_with fail
  refine hSo.mono ?_
  rintro r w2 ⟨rfl, hR2, hx⟩
  have hrd := hR2.rd
  rw [HSL.out] at hrd
  have hb2 := hbb.trans (hx.below hg2 hR.lt)
  clear hSo
  go_wp2_with fail
  go_ret
  exact ⟨_, _, rfl, hrd, hb2⟩

end Go.Proofs.Ytdjeafaaclhpkaa.M
