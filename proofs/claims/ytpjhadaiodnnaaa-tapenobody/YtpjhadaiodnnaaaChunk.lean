/-
  Own text: contracts of the program's chunk, getSum and Open.
-/
import Derived.Test.YtpjhadaiodnnaaaPureS
namespace Go.Proofs.Ytpjhadaiodnnaaa.M
open Go.ChangeShapes Go.WideShapes Go.ChangeAt Go.RowKit

theorem Rd.sub {k : IntKind} {w : World} {b o n c : Nat} {xs : List Int} (h : Rd k w (some ⟨b, o, none⟩) n c xs) (a m d : Nat) (h1 : a + m ≤ n) (h2 : m ≤ d) : Rd k w (some ⟨b, o + a, none⟩) m d ((xs.drop a).take m) := by
  have hl := h.len
  refine ⟨by rw [List.length_take, List.length_drop]; omega, h2, (fun e => by cases e), fun hm => ⟨b, o + a, rfl, fun i hi => ?_⟩⟩
  obtain ⟨b', o', he, hc⟩ := h.cells (by omega)
  cases he
  have := hc (a + i) (by omega)
  rw [show o + a + i = o + (a + i) by omega, this]
  rw [List.getD_eq_getElem?_getD, List.getD_eq_getElem?_getD, List.getElem?_take, if_pos hi, List.getElem?_drop]

set_option maxRecDepth 20000 in
theorem chunk_long (p : Option Addr) (n c : Nat) (xs : List Int) (most : Nat) (w : World) (hr : Rd .u8 w p n c xs) (hx : By xs) (hn : n ≤ 1099511627776) (hm : most ≤ 1099511627776) (he : (numR xs).2.2 = 0) (hv : most < (numR xs).1) :
    Calls Try.prog 94 #[.slice p n c, .int .i64 most] w fun e w' => e = .returned (.tuple #[.slice none 0 0, .int .i64 0, .int .i64 4]) ∧ w' = w := by
  have hq := number_any p n c xs w hr hx hn
  rw [he] at hq
  generalize (numR xs).1 = a at hq hv
  generalize (numR xs).2.1 = b at hq
  clear hr hx he
  rcases (show 0 < most ∨ most = 0 by omega) with h | rfl
  · go_enter Try.func94, Try.ntmps94
    go_wp2_with (go_at_call 92; refine hq.mono ?_; rintro e w1 ⟨rfl, hw⟩; subst hw)
    go_ret3
    exact ⟨rfl, rfl⟩
  · go_enter Try.func94, Try.ntmps94
    go_wp2_with (go_at_call 92; refine hq.mono ?_; rintro e w1 ⟨rfl, hw⟩; subst hw)
    go_ret3
    exact ⟨rfl, rfl⟩

set_option maxRecDepth 20000 in
theorem chunk_short (p : Option Addr) (n c : Nat) (xs : List Int) (most : Nat) (w : World) (hr : Rd .u8 w p n c xs) (hx : By xs) (hn : n ≤ 1099511627776) (hm : most ≤ 1099511627776) (he : (numR xs).2.2 = 0) (hv : (numR xs).1 ≤ most) (ha : (numR xs).2.1 ≤ n) (hs : n - (numR xs).2.1 < (numR xs).1) :
    Calls Try.prog 94 #[.slice p n c, .int .i64 most] w fun e w' => e = .returned (.tuple #[.slice none 0 0, .int .i64 0, .int .i64 2]) ∧ w' = w := by
  have hq := number_any p n c xs w hr hx hn
  rw [he] at hq
  generalize (numR xs).1 = a at hq hv hs
  generalize (numR xs).2.1 = b at hq hs ha
  clear hr hx he
  go_enter Try.func94, Try.ntmps94
  go_wp2_with (go_at_call 92; refine hq.mono ?_; rintro e w1 ⟨rfl, hw⟩; subst hw)
  go_ret3
  exact ⟨rfl, rfl⟩

theorem ret_chunk (p : Option Addr) (a v : Nat) : Ending.returned (.tuple #[.slice p (a + v - a) (a + v - a), .int .i64 ((a : Int) + (v : Int)), .int .i64 0]) = .returned (.tuple #[.slice p v v, .int .i64 ((a + v : Nat) : Int), .int .i64 0]) := by
  rw [Nat.add_sub_cancel_left, Int.natCast_add]

set_option maxRecDepth 20000 in
theorem chunk_ok (b o n c : Nat) (xs : List Int) (most : Nat) (w : World) (hr : Rd .u8 w (some ⟨b, o, none⟩) n c xs) (hx : By xs) (hn : n ≤ 1099511627776) (hm : most ≤ 1099511627776) (he : (numR xs).2.2 = 0) (hv : (numR xs).1 ≤ most) (hs : (numR xs).2.1 + (numR xs).1 ≤ n) :
    Calls Try.prog 94 #[.slice (some ⟨b, o, none⟩) n c, .int .i64 most] w fun e w' => ∃ o', e = .returned (.tuple #[.slice (some ⟨b, o', none⟩) (numR xs).1 (numR xs).1, .int .i64 ((numR xs).2.1 + (numR xs).1 : Nat), .int .i64 0]) ∧ Rd .u8 w (some ⟨b, o', none⟩) (numR xs).1 (numR xs).1 ((xs.drop (numR xs).2.1).take (numR xs).1) ∧ w' = w := by
  have hq := number_any _ n c xs w hr hx hn
  have hcap := hr.cap
  have hsub := hr.sub (numR xs).2.1 (numR xs).1 (numR xs).1 hs (Nat.le_refl _)
  rw [he] at hq
  generalize (numR xs).1 = v at hq hv hs hsub ⊢
  generalize (numR xs).2.1 = a at hq hs hsub ⊢
  clear hr hx he
  rcases (show v = 0 ∨ 0 < v by omega) with hv0 | hv0
  · subst hv0
    go_enter Try.func94, Try.ntmps94
    go_wp2_with (go_at_call 92; refine hq.mono ?_; rintro e w1 ⟨rfl, hw⟩; subst hw)
    go_ret3
    exact ⟨_, rfl, Rd.empty _ _ _ _ (fun _ => rfl), rfl⟩
  · go_enter Try.func94, Try.ntmps94
    go_wp2_with (go_at_call 92; refine hq.mono ?_; rintro e w1 ⟨rfl, hw⟩; subst hw)
    go_ret3
    exact ⟨_, ret_chunk _ a v, hsub, rfl⟩

theorem or_byte_u32 (s z : Nat) (hs : s < 16777216) (hz : z < 256) : bits .or .u32 ((s : Int) * 256) (z : Int) = ((s * 256 + z : Nat) : Int) := by
  rw [show (s : Int) * 256 = ((s * 256 : Nat) : Int) by omega, u32_or_nat (s * 256) z (by omega) (by omega), nat_join 8 (s * 256) z (by omega) (by omega)]

/-- The number in the first bytes. -/
def getN (l : List Int) : Nat := l.foldl (fun s x => s * 256 + x.toNat) 0

theorem getN_snoc {l : List Int} {k : Nat} (h : k < l.length) : getN (l.take (k + 1)) = getN (l.take k) * 256 + (l.getD k 0).toNat := by
  unfold getN
  rw [take_snoc h, List.foldl_append]
  rfl

theorem getN_lt {l : List Int} (hb : By l) : getN l < 256 ^ l.length := by
  have key : ∀ (l : List Int) (s n : Nat), By l → s < 256 ^ n → l.foldl (fun s x => s * 256 + x.toNat) s < 256 ^ (n + l.length) := by
    intro l
    induction l with
    | nil => intro s n _ h; simpa using h
    | cons x r ih =>
      intro s n hb h
      have hx := hb x (by simp)
      have := ih (s * 256 + x.toNat) (n + 1) (fun y hy => hb y (by simp [hy])) (by rw [Nat.pow_succ]; omega)
      rw [List.length_cons, show n + (r.length + 1) = n + 1 + r.length by omega]
      exact this
  have := key l 0 0 hb (by simp)
  simpa [getN] using this

set_option maxRecDepth 20000 in
set_option maxHeartbeats 400000 in
theorem getSum_any (b o n c : Nat) (xs : List Int) (w : World) (hr : Rd .u8 w (some ⟨b, o, none⟩) n c xs) (hx : By xs) (hn : 4 ≤ n) :
    Calls Try.prog 105 #[.slice (some ⟨b, o, none⟩) n c] w fun e w' => e = .returned (.int .u32 (get4 xs)) ∧ w' = w := by
  have hcap := hr.cap
  have hlen := hr.len
  have hc : ∀ i, i < n → w.cell? ⟨b, o + i, none⟩ = some (.int .u8 (xs.getD i 0)) := by
    obtain ⟨b', o', he, hc⟩ := hr.cells (by omega)
    cases he
    exact hc
  have HG : Hid (get4 xs = getN (xs.take 4)) := rfl
  clear hr
  go_enter Try.func105, Try.ntmps105
  go_wp2
  go_loop [3, 9] (fun v i => ∃ k : Nat, k ≤ 4 ∧ i = .int .i64 k ∧ v = .int .u32 (getN (xs.take k))) (fun _ i => 4 - (intOf i).toNat)
  case atStart => exact ⟨0, by omega, rfl, rfl⟩
  case round =>
    obtain ⟨k, hk, rfl, rfl⟩ := hrel
    by_cases h : k < 4
    · have hcx := hc k (by omega)
      have hz := hx (xs.getD k 0) (getD_mem (by omega))
      have HS : Hid (getN (xs.take (k + 1)) = getN (xs.take k) * 256 + (xs.getD k 0).toNat) := getN_snoc (by omega)
      have hg : getN (xs.take k) < 16777216 := by
        have h1 := getN_lt (hx.take k)
        rw [List.length_take, Nat.min_eq_left (by omega)] at h1
        have h2 : 256 ^ k ≤ 256 ^ 3 := Nat.pow_le_pow_right (by decide) (by omega)
        exact Nat.lt_of_lt_of_le h1 h2
      clear hc hx hlen HG
      generalize xs.getD k 0 = z at hcx hz HS
      generalize getN (xs.take k) = s at hg HS
      obtain ⟨z, rfl⟩ := Int.eq_ofNat_of_zero_le hz.1
      have hor := or_byte_u32 s z hg (by omega)
      go_wp2
      go_round
      case rel => exact ⟨k + 1, by omega, by go_num, by rw [HS.out]; rfl⟩
      case measure => simp [intOf]; omega
    · obtain rfl : k = 4 := by omega
      clear hc hx
      rw [← HG.out]
      go_wp2
      go_ret
      exact ⟨rfl, rfl⟩

end Go.Proofs.Ytpjhadaiodnnaaa.M
