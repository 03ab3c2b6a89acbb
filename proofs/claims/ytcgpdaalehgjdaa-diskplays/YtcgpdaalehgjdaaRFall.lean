/-
  Own text: the contract of the reference's Fall.
-/
import Derived.Test.YtcgpdaalehgjdaaRBase
import Derived.Laws.Concat
import Derived.Laws.Strings3
namespace Go.Proofs.Ytcgpdaalehgjdaa.M
open Go.ChangeShapes Go.WideShapes Go.ChangeAt Go.RowKit

theorem str_take (xs : List Int) (n : Nat) : (strOfNums xs).extract 0 n = strOfNums (xs.take n) := by
  apply ByteArray.ext
  rw [ByteArray.data_extract]
  unfold strOfNums
  simp

theorem str_drop (xs : List Int) (n : Nat) : (strOfNums xs).extract n xs.length = strOfNums (xs.drop n) := by
  apply ByteArray.ext
  rw [ByteArray.data_extract]
  unfold strOfNums
  simp
  rw [List.take_of_length_le (by simp)]

theorem keepAt_none' (keep : List Int) {i : Nat} (h : keep.length ≤ i) : keepAt keep i < 0 := by
  unfold keepAt
  rw [if_neg (by omega)]
  decide

theorem keepAt_some' (keep : List Int) {i : Nat} (h : i < keep.length) : keepAt keep i = keep.getD i 0 := if_pos h

theorem str_app (xs ys : List Int) : strOfNums xs ++ strOfNums ys = strOfNums (xs ++ ys) := by
  apply ByteArray.ext
  rw [ByteArray.data_append]
  unfold strOfNums
  simp

theorem pre_take {ls ts : List Int} (h : ls <+: ts) (n : Nat) : ts.take (ls.length + n) = ls ++ (ts.drop ls.length).take n := by
  obtain ⟨r, rfl⟩ := h
  rw [List.drop_left, List.take_length_add_append]

theorem sizeRf : (Try.prog.info? 70).map (·.size) = some 3 := by kernel_rfl

theorem oneRf (s t : ByteArray) (b : Bool) : (#[.string s, .string t, .bool b] : Array Value).all (·.oneCell') = true := by simp [Value.oneCell']

theorem RC.setAll {w : World} {g : Nat} {m : PD} {k : Sl} (h : RC w g m k) {i : Nat} (hi : i < 8) (t : List Int) : RC (w.setCells g (i * 3) [.string (strOfNums t), .string (strOfNums t), .bool false]) g { m with f := upP m.f i ⟨t, t, false⟩ } k := by
  have hd := ((h.setTold hi t).setLasts hi t).setCl hi false
  dsimp only at hd
  rw [upP_same, upP_up, upP_same, upP_up] at hd
  exact hd

set_option maxRecDepth 20000 in
set_option maxHeartbeats 2000000 in
theorem rfall_any (w : World) (g : Nat) (m : PD) (kk : Sl) (h : RC w g m kk) (q : Option Addr) (l c : Nat) (keep : List Int) (hr : Rd .i64 w q l c keep) (hl : l ≤ 549755813888) (hq : ∀ x, q = some x → 0 < l → x.block ≠ g) (hn : ∀ i, i < 8 → (m.f i).told.length ≤ 549755813888) (hpre : ∀ i, i < 8 → (m.f i).cl = false → (m.f i).lasts <+: (m.f i).told) :
    Calls Try.prog 55 #[.pointer (some ⟨g, 0, none⟩), .slice q l c] w fun e w' => e = .returned (.tuple #[]) ∧ RC w' g (m.fall keep) ⟨none, 0, 0⟩ ∧ Ch (fun k => k = g) w w' := by
  have hR := h.range
  have hc0 := h.told (i := 0) (by decide)
  have hlk := hr.len
  have h0 : RC w g { m with f := fallN m.f keep 0 } kk := by
    have e : fallN m.f keep 0 = m.f := by
      funext i
      unfold fallN
      rw [if_neg (Nat.not_lt_zero _)]
    rw [e]
    exact h
  go_enter Try.func55, Try.ntmps55
  go_wp2_with (refine wpList_load_mid rfl 71 (.tmp 11) rfl g 0 rfl (rc24 m.f) _ hR Try.underlying71 rfl size24 ?_)
  go_loopw [13] (fun ix wr => ∃ k : Nat, k ≤ 8 ∧ ix = .int .i64 k ∧ RC wr g { m with f := fallN m.f keep k } kk ∧ Ch (fun j => j = g) w wr) (fun ix _ => 8 - (intOf ix).toNat)
  case atStart => exact ⟨0, Nat.zero_le _, rfl, h0, Ch.refl _ _⟩
  case round =>
    clear h0 h hR hc0
    obtain ⟨k, hk, rfl, hRC, hC⟩ := hrel
    by_cases h8 : k < 8
    · have hki : (k : Int) < 8 := by omega
      have hix := fun W => index24 m.f h8 W
      have hfk : fallN m.f keep k k = m.f k := if_neg (Nat.lt_irrefl _)
      have hbB : Below wr.heap.size wr (wr.alloc (.cells #[.string (strOfNums (m.f k).told), .string (strOfNums (m.f k).lasts), .bool (m.f k).cl] 70)) := (Below.refl _ _).alloc (Nat.le_refl _) _
      have hr2 := hr.ch0 hC (fun x e h0 e2 => hq x e h0 e2)
      by_cases hkl : k < l
      · have hkli : (k : Int) < (l : Int) := by omega
        obtain ⟨kb, ko, rfl, hkc⟩ := hr2.cells (by omega)
        have hkc2 := cell_belowB hbB (World.block_lt_of_cell? _ _ (hkc k hkl)) (hkc k hkl)
        have hkv : keepAt keep k = keep.getD k 0 := keepAt_some' keep (by omega)
        clear hkc hr2
        generalize hkvv : keep.getD k 0 = kv at *
        by_cases hneg : kv < 0
        · have hrest : Hid ((m.f k).rest (keepAt keep k) = (m.f k).lasts) := by
            unfold Hid PF.rest
            rw [if_pos (by rw [hkv]; exact hneg)]
          have hRC2 := (hRC.below hbB).setAll h8 ((m.f k).lasts)
          have hst : upP (fallN m.f keep k) k ⟨(m.f k).lasts, (m.f k).lasts, false⟩ = fallN m.f keep (k + 1) := by
            rw [← fallN_step]
            show _ = upP _ k ((fallN m.f keep k k).crash (keepAt keep k))
            rw [hfk]
            unfold PF.crash
            rw [hrest.out]
          dsimp only at hRC2
          rw [hst] at hRC2
          have hTh : (wr.alloc (.cells #[.string (strOfNums (m.f k).told), .string (strOfNums (m.f k).lasts), .bool (m.f k).cl] 70)).there g (k * 3) 3 := fun j hj => by
            have hh := hRC.below hbB
            rw [hh.cells (k * 3 + j) (by omega)]
            exact ⟨rfl, hh.free _⟩
          have hC2 := ((Ch.of_below hbB (fun j => j = g)).mono (fun _ _ e => e)).trans (Ch.setCells g [.string (strOfNums ((m.f k).lasts)), .string (strOfNums ((m.f k).lasts)), .bool false] (k * 3) (wr.alloc (.cells #[.string (strOfNums (m.f k).told), .string (strOfNums (m.f k).lasts), .bool (m.f k).cl] 70)))
          have hC3 := hC.trans hC2
          clear hRC hst hrest
          have hk0 : ¬ (0 : Int) ≤ kv := by omega
          go_wp2_with (refine wpList_store_mid rfl 70 (.tmp 65) (.tmp 62) rfl g (k * 3) #[.string (strOfNums ((m.f k).lasts)), .string (strOfNums ((m.f k).lasts)), .bool false] rfl rfl hTh sizeRf (oneRf _ _ _) ?_)
          go_roundw
          case rel => exact ⟨k + 1, by omega, by go_num, hRC2, hC3⟩
          case measure => simp [intOf]; omega
        · obtain ⟨K, rfl⟩ := Int.eq_ofNat_of_zero_le (show 0 ≤ kv by omega)
          cases hcl : (m.f k).cl with
          | true =>
            rw [hcl] at hbB hkc2
            simp only [hcl] at hix
            by_cases hKL : K ≤ (m.f k).told.length
            · have hKi : ¬ ((m.f k).told.length : Int) < (K : Int) := by omega
              have hrest : Hid ((m.f k).rest (keepAt keep k) = ((m.f k).told.take K)) := by
                unfold Hid PF.rest
                rw [hkv, if_neg (by omega)]
                unfold PF.sure
                rw [hcl]
                simp only [if_true, Int.toNat_natCast]
                rw [Nat.zero_add, Nat.sub_zero, Nat.min_eq_left hKL]
              have hRC2 := (hRC.below hbB).setAll h8 (((m.f k).told.take K))
              have hst : upP (fallN m.f keep k) k ⟨((m.f k).told.take K), ((m.f k).told.take K), false⟩ = fallN m.f keep (k + 1) := by
                rw [← fallN_step]
                show _ = upP _ k ((fallN m.f keep k k).crash (keepAt keep k))
                rw [hfk]
                unfold PF.crash
                rw [hrest.out]
              dsimp only at hRC2
              rw [hst] at hRC2
              have hTh : (wr.alloc (.cells #[.string (strOfNums (m.f k).told), .string (strOfNums (m.f k).lasts), .bool true] 70)).there g (k * 3) 3 := fun j hj => by
                have hh := hRC.below hbB
                rw [hh.cells (k * 3 + j) (by omega)]
                exact ⟨rfl, hh.free _⟩
              have hC2 := ((Ch.of_below hbB (fun j => j = g)).mono (fun _ _ e => e)).trans (Ch.setCells g [.string (strOfNums (((m.f k).told.take K))), .string (strOfNums (((m.f k).told.take K))), .bool false] (k * 3) (wr.alloc (.cells #[.string (strOfNums (m.f k).told), .string (strOfNums (m.f k).lasts), .bool true] 70)))
              have hC3 := hC.trans hC2
              clear hRC hst hrest
              have hex : (strOfNums (m.f k).told).extract 0 K = strOfNums ((m.f k).told.take K) := str_take _ _
              have hsz : (strOfNums (m.f k).told).size = (m.f k).told.length := strOfNums_size _
              have hk0 : (0 : Int) ≤ (K : Int) := by omega
              go_wp2_with (refine wpList_store_mid rfl 70 (.tmp 65) (.tmp 62) rfl g (k * 3) #[.string (strOfNums (((m.f k).told.take K))), .string (strOfNums (((m.f k).told.take K))), .bool false] rfl rfl hTh sizeRf (oneRf _ _ _) ?_)
              go_roundw
              case rel => exact ⟨k + 1, by omega, by go_num, hRC2, hC3⟩
              case measure => simp [intOf]; omega
            · have hKi : ((m.f k).told.length : Int) < (K : Int) := by omega
              have hrest : Hid ((m.f k).rest (keepAt keep k) = (m.f k).told) := by
                unfold Hid PF.rest
                rw [hkv, if_neg (by omega)]
                unfold PF.sure
                rw [hcl]
                simp only [if_true, Int.toNat_natCast]
                rw [Nat.zero_add, Nat.sub_zero, Nat.min_eq_right (by omega), List.take_length]
              have hRC2 := (hRC.below hbB).setAll h8 ((m.f k).told)
              have hst : upP (fallN m.f keep k) k ⟨(m.f k).told, (m.f k).told, false⟩ = fallN m.f keep (k + 1) := by
                rw [← fallN_step]
                show _ = upP _ k ((fallN m.f keep k k).crash (keepAt keep k))
                rw [hfk]
                unfold PF.crash
                rw [hrest.out]
              dsimp only at hRC2
              rw [hst] at hRC2
              have hTh : (wr.alloc (.cells #[.string (strOfNums (m.f k).told), .string (strOfNums (m.f k).lasts), .bool true] 70)).there g (k * 3) 3 := fun j hj => by
                have hh := hRC.below hbB
                rw [hh.cells (k * 3 + j) (by omega)]
                exact ⟨rfl, hh.free _⟩
              have hC2 := ((Ch.of_below hbB (fun j => j = g)).mono (fun _ _ e => e)).trans (Ch.setCells g [.string (strOfNums ((m.f k).told)), .string (strOfNums ((m.f k).told)), .bool false] (k * 3) (wr.alloc (.cells #[.string (strOfNums (m.f k).told), .string (strOfNums (m.f k).lasts), .bool true] 70)))
              have hC3 := hC.trans hC2
              clear hRC hst hrest
              have hex : (strOfNums (m.f k).told).extract 0 (m.f k).told.length = strOfNums (m.f k).told := (str_take _ _).trans (by rw [List.take_length])
              have hsz : (strOfNums (m.f k).told).size = (m.f k).told.length := strOfNums_size _
              have hk0 : (0 : Int) ≤ (K : Int) := by omega
              go_wp2_with (refine wpList_store_mid rfl 70 (.tmp 65) (.tmp 62) rfl g (k * 3) #[.string (strOfNums ((m.f k).told)), .string (strOfNums ((m.f k).told)), .bool false] rfl rfl hTh sizeRf (oneRf _ _ _) ?_)
              go_roundw
              case rel => exact ⟨k + 1, by omega, by go_num, hRC2, hC3⟩
              case measure => simp [intOf]; omega
          | false =>
            rw [hcl] at hbB hkc2
            simp only [hcl] at hix
            have hple : (m.f k).lasts.length ≤ (m.f k).told.length := (hpre k h8 hcl).length_le
            obtain ⟨D, HD⟩ : ∃ D, Hid ((m.f k).told.drop (m.f k).lasts.length = D) := ⟨_, rfl⟩
            have HL : Hid (D.length = (m.f k).told.length - (m.f k).lasts.length) := by
              unfold Hid
              rw [← HD.out]
              exact List.length_drop
            have hDle : D.length ≤ (m.f k).told.length := by have := HL.out; omega
            by_cases hKL : K ≤ (m.f k).told.length - (m.f k).lasts.length
            · have hKi : ¬ (D.length : Int) < (K : Int) := by have := HL.out; omega
              have hex1 : (strOfNums (m.f k).told).extract (m.f k).lasts.length (m.f k).told.length = strOfNums D := by rw [← HD.out]; exact str_drop _ _
              have hsz1 : (strOfNums (m.f k).told).size = (m.f k).told.length := strOfNums_size _
              have hsz2 : (strOfNums (m.f k).lasts).size = (m.f k).lasts.length := strOfNums_size _
              have hsz3 : (strOfNums D).size = D.length := strOfNums_size _
              have hex2 : (strOfNums D).extract 0 K = strOfNums (D.take K) := str_take _ _
              have hsz4 : (strOfNums (D.take K)).size = (D.take K).length := strOfNums_size _
              have hle4 : (D.take K).length ≤ (m.f k).told.length := Nat.le_trans (List.length_take_le' _ _) hDle
              have happ : strOfNums (m.f k).lasts ++ strOfNums (D.take K) = strOfNums ((m.f k).lasts ++ (D.take K)) := str_app _ _
              have hk0 : (0 : Int) ≤ (K : Int) := by omega
              have hle0 : ((m.f k).lasts.length : Int) ≤ ((m.f k).told.length : Int) := by omega
              have hn4 : (m.f k).told.length ≤ 549755813888 := hn k h8
              have hn5 : (m.f k).lasts.length ≤ 549755813888 := Nat.le_trans hple hn4
              go_wp2_with fail
              go_quiet (fail)
              replace hbB := below_drewN hbB nq
              have hrest : Hid ((m.f k).rest (keepAt keep k) = ((m.f k).lasts ++ D.take K)) := by
                unfold Hid PF.rest
                rw [hkv, if_neg (by omega)]
                unfold PF.sure
                rw [hcl]
                simp only [Bool.false_eq_true, if_false, Int.toNat_natCast]
                rw [Nat.min_eq_left hKL, pre_take (hpre k h8 hcl), HD.out]
              have hRC2 := (hRC.below hbB).setAll h8 (((m.f k).lasts ++ D.take K))
              have hst : upP (fallN m.f keep k) k ⟨((m.f k).lasts ++ D.take K), ((m.f k).lasts ++ D.take K), false⟩ = fallN m.f keep (k + 1) := by
                rw [← fallN_step]
                show _ = upP _ k ((fallN m.f keep k k).crash (keepAt keep k))
                rw [hfk]
                unfold PF.crash
                rw [hrest.out]
              dsimp only at hRC2
              rw [hst] at hRC2
              have hTh : ((wr.alloc (.cells #[.string (strOfNums (m.f k).told), .string (strOfNums (m.f k).lasts), .bool false] 70)).drewN nq).there g (k * 3) 3 := fun j hj => by
                have hh := hRC.below hbB
                rw [hh.cells (k * 3 + j) (by omega)]
                exact ⟨rfl, hh.free _⟩
              have hC2 := ((Ch.of_below hbB (fun j => j = g)).mono (fun _ _ e => e)).trans (Ch.setCells g [.string (strOfNums (((m.f k).lasts ++ D.take K))), .string (strOfNums (((m.f k).lasts ++ D.take K))), .bool false] (k * 3) ((wr.alloc (.cells #[.string (strOfNums (m.f k).told), .string (strOfNums (m.f k).lasts), .bool false] 70)).drewN nq))
              have hC3 := hC.trans hC2
              clear hRC hst hrest
              go_wp2_with (refine wpList_store_mid rfl 70 (.tmp 65) (.tmp 62) rfl g (k * 3) #[.string (strOfNums (((m.f k).lasts ++ D.take K))), .string (strOfNums (((m.f k).lasts ++ D.take K))), .bool false] rfl rfl hTh sizeRf (oneRf _ _ _) ?_)
              go_roundw
              case rel => exact ⟨k + 1, by omega, by go_num, hRC2, hC3⟩
              case measure => simp [intOf]; omega
            · have hKi : (D.length : Int) < (K : Int) := by have := HL.out; omega
              have hex1 : (strOfNums (m.f k).told).extract (m.f k).lasts.length (m.f k).told.length = strOfNums D := by rw [← HD.out]; exact str_drop _ _
              have hsz1 : (strOfNums (m.f k).told).size = (m.f k).told.length := strOfNums_size _
              have hsz2 : (strOfNums (m.f k).lasts).size = (m.f k).lasts.length := strOfNums_size _
              have hsz3 : (strOfNums D).size = D.length := strOfNums_size _
              have hex2 : (strOfNums D).extract 0 D.length = strOfNums D := (str_take _ _).trans (by rw [List.take_length])
              have hle4 : D.length ≤ (m.f k).told.length := Nat.le_trans (Nat.le_refl _) hDle
              have happ : strOfNums (m.f k).lasts ++ strOfNums D = strOfNums ((m.f k).lasts ++ D) := str_app _ _
              have hk0 : (0 : Int) ≤ (K : Int) := by omega
              have hle0 : ((m.f k).lasts.length : Int) ≤ ((m.f k).told.length : Int) := by omega
              have hn4 : (m.f k).told.length ≤ 549755813888 := hn k h8
              have hn5 : (m.f k).lasts.length ≤ 549755813888 := Nat.le_trans hple hn4
              go_wp2_with fail
              go_quiet (fail)
              replace hbB := below_drewN hbB nq
              have hrest : Hid ((m.f k).rest (keepAt keep k) = ((m.f k).lasts ++ D)) := by
                unfold Hid PF.rest
                rw [hkv, if_neg (by omega)]
                unfold PF.sure
                rw [hcl]
                simp only [Bool.false_eq_true, if_false, Int.toNat_natCast]
                rw [Nat.min_eq_right (by omega), ← HL.out, pre_take (hpre k h8 hcl), HD.out, List.take_length]
              have hRC2 := (hRC.below hbB).setAll h8 (((m.f k).lasts ++ D))
              have hst : upP (fallN m.f keep k) k ⟨((m.f k).lasts ++ D), ((m.f k).lasts ++ D), false⟩ = fallN m.f keep (k + 1) := by
                rw [← fallN_step]
                show _ = upP _ k ((fallN m.f keep k k).crash (keepAt keep k))
                rw [hfk]
                unfold PF.crash
                rw [hrest.out]
              dsimp only at hRC2
              rw [hst] at hRC2
              have hTh : ((wr.alloc (.cells #[.string (strOfNums (m.f k).told), .string (strOfNums (m.f k).lasts), .bool false] 70)).drewN nq).there g (k * 3) 3 := fun j hj => by
                have hh := hRC.below hbB
                rw [hh.cells (k * 3 + j) (by omega)]
                exact ⟨rfl, hh.free _⟩
              have hC2 := ((Ch.of_below hbB (fun j => j = g)).mono (fun _ _ e => e)).trans (Ch.setCells g [.string (strOfNums (((m.f k).lasts ++ D))), .string (strOfNums (((m.f k).lasts ++ D))), .bool false] (k * 3) ((wr.alloc (.cells #[.string (strOfNums (m.f k).told), .string (strOfNums (m.f k).lasts), .bool false] 70)).drewN nq))
              have hC3 := hC.trans hC2
              clear hRC hst hrest
              go_wp2_with (refine wpList_store_mid rfl 70 (.tmp 65) (.tmp 62) rfl g (k * 3) #[.string (strOfNums (((m.f k).lasts ++ D))), .string (strOfNums (((m.f k).lasts ++ D))), .bool false] rfl rfl hTh sizeRf (oneRf _ _ _) ?_)
              go_roundw
              case rel => exact ⟨k + 1, by omega, by go_num, hRC2, hC3⟩
              case measure => simp [intOf]; omega
      · have hkli : ¬ (k : Int) < (l : Int) := by omega
        have hkv := keepAt_none' keep (i := k) (by omega)
        have hrest : Hid ((m.f k).rest (keepAt keep k) = (m.f k).lasts) := by
          unfold Hid PF.rest
          rw [if_pos hkv]
        have hRC2 := (hRC.below hbB).setAll h8 ((m.f k).lasts)
        have hst : upP (fallN m.f keep k) k ⟨(m.f k).lasts, (m.f k).lasts, false⟩ = fallN m.f keep (k + 1) := by
          rw [← fallN_step]
          show _ = upP _ k ((fallN m.f keep k k).crash (keepAt keep k))
          rw [hfk]
          unfold PF.crash
          rw [hrest.out]
        dsimp only at hRC2
        rw [hst] at hRC2
        have hTh : (wr.alloc (.cells #[.string (strOfNums (m.f k).told), .string (strOfNums (m.f k).lasts), .bool (m.f k).cl] 70)).there g (k * 3) 3 := fun j hj => by
          have hh := hRC.below hbB
          rw [hh.cells (k * 3 + j) (by omega)]
          exact ⟨rfl, hh.free _⟩
        have hC2 := ((Ch.of_below hbB (fun j => j = g)).mono (fun _ _ e => e)).trans (Ch.setCells g [.string (strOfNums ((m.f k).lasts)), .string (strOfNums ((m.f k).lasts)), .bool false] (k * 3) (wr.alloc (.cells #[.string (strOfNums (m.f k).told), .string (strOfNums (m.f k).lasts), .bool (m.f k).cl] 70)))
        have hC3 := hC.trans hC2
        clear hRC hst hrest
        have hk0 : ¬ (0 : Int) ≤ -1 := by decide
        go_wp2_with (refine wpList_store_mid rfl 70 (.tmp 65) (.tmp 62) rfl g (k * 3) #[.string (strOfNums ((m.f k).lasts)), .string (strOfNums ((m.f k).lasts)), .bool false] rfl rfl hTh sizeRf (oneRf _ _ _) ?_)
        go_roundw
        case rel => exact ⟨k + 1, by omega, by go_num, hRC2, hC3⟩
        case measure => simp [intOf]; omega
    · obtain rfl : k = 8 := by omega
      have d1 := hRC.down
      have f1 := hRC.free 25
      have h1 := hRC.setDown true
      have d2 := h1.left
      have f2 := hRC.free 26
      have h2 : RC ((wr.setCell ⟨g, 25, none⟩ (.bool true)).setCell ⟨g, 26, none⟩ (.int .i64 0)) g _ kk := h1.setLeft 0
      have d3 := h2.keep
      have f3 := hRC.free 27
      have h3 := h2.setKeep none 0 0 []
      have hcE := hC.trans ((Ch.cells2 wr g 25 26 (.bool true) (.int .i64 0)).trans (Ch.setCell _ ⟨g, 27, none⟩ (.slice none 0 0)))
      clear h1 h2 hRC
      generalize m.down = md at *
      generalize m.left = ml at *
      obtain ⟨k1, k2, k3⟩ := kk
      dsimp only at *
      go_wp2_with fail
      go_end0
      exact ⟨rfl, h3, hcE⟩

end Go.Proofs.Ytcgpdaalehgjdaa.M
