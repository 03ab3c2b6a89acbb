/-
  Own text: what short answers, of any lists of calls.
-/
import Derived.Test.YtcgpdaalehgjdaaDRun
namespace Go.Proofs.Ytcgpdaalehgjdaa.M
open Go.ChangeShapes Go.WideShapes Go.ChangeAt Go.RowKit

/-- A call's length, as short counts it. -/
def Dv.sz (x : Dv) : Nat := min x.bl 16385 + min x.kl 16385

/-- That of the first k. -/
def szN (ls : List Dv) : Nat → Nat
  | 0 => 0
  | k + 1 => szN ls k + (ls.getD k .z0).sz

/-- That of the first k lists, and how many calls they have. -/
def totN (LL : List (List Dv)) : Nat → Nat
  | 0 => 0
  | k + 1 => totN LL k + szN (LL.getD k []) (LL.getD k []).length
def cntN (LL : List (List Dv)) : Nat → Nat
  | 0 => 0
  | k + 1 => cntN LL k + (LL.getD k []).length

/-- Slices of calls. -/
structure RdQQ (w : World) (p : Option Addr) (n : Nat) (LL : List (List Dv)) : Prop where
  len : LL.length = n
  cells : 0 < n → ∃ b o, p = some ⟨b, o, none⟩ ∧ ∀ j, j < n → ∃ q m d, w.cell? ⟨b, o + j, none⟩ = some (.slice q m d) ∧ RdQ w q m d (LL.getD j [])

/-- What short has counted. -/
def Sh (t c : Nat) (x y : Int) : Prop := 0 ≤ x ∧ x ≤ 60000 ∧ 0 ≤ y ∧ y ≤ 151 ∧ (x ≤ 16384 → y ≤ 150 → x = t ∧ y = c)

/-- What it answers. -/
def ShE (LL : List (List Dv)) (e : Ending) : Prop := ∃ b, e = .returned (.bool b) ∧ (b = true → totN LL LL.length ≤ 16384 ∧ cntN LL LL.length ≤ 150)

set_option maxRecDepth 20000 in
set_option maxHeartbeats 2000000 in
theorem short_any (w : World) (p : Option Addr) (n c : Nat) (LL : List (List Dv)) (h : RdQQ w p n LL) (hn : n ≤ 1000) :
    Calls Try.prog 11 #[.slice p n c] w fun e w' => ShE LL e ∧ Below w.heap.size w w' := by
  go_enter Try.func11, Try.ntmps11
  go_wp2_with fail
  go_loopw [3, 4, 10] (fun x y i wr => ∃ (k : Nat) (p q : Int), k ≤ n ∧ i = .int .i64 k ∧ x = .int .i64 p ∧ y = .int .i64 q ∧ Sh (totN LL k) (cntN LL k) p q ∧ Below w.heap.size w wr) (fun _ _ i _ => n - (intOf i).toNat)
  case atStart => exact ⟨0, 0, 0, Nat.zero_le _, rfl, rfl, rfl, ⟨by decide, by decide, by decide, by decide, fun _ _ => ⟨rfl, rfl⟩⟩, Below.refl _ _⟩
  case round =>
    obtain ⟨k, x, y, hk, rfl, rfl, rfl, hS, hb⟩ := hrel
    by_cases hkn : k < n
    · have hki : (k : Int) < (n : Int) := by omega
      obtain ⟨b, o, rfl, hc⟩ := h.cells (by omega)
      obtain ⟨q, m, d, hq, hr⟩ := hc k hkn
      have HT : Hid (totN LL (k + 1) = totN LL k + szN (LL.getD k []) (LL.getD k []).length) := rfl
      have HC : Hid (cntN LL (k + 1) = cntN LL k + (LL.getD k []).length) := rfl
      have hq2 := cell_belowB hb (World.block_lt_of_cell? _ _ hq) hq
      have hlen := hr.len
      clear hc hq
      generalize LL.getD k [] = ls at *
      generalize totN LL k = T at *
      generalize cntN LL k = C at *
      rw [hlen] at HT HC
      go_wp2_with fail
      go_loopw [3, 4, 7] (fun x y i wq => ∃ (j : Nat) (p q : Int), j ≤ m ∧ i = .int .i64 j ∧ x = .int .i64 p ∧ y = .int .i64 q ∧ Sh (T + szN ls j) (C + j) p q ∧ Below w.heap.size w wq) (fun _ _ i _ => m - (intOf i).toNat)
      case atStart => exact ⟨0, x, y, Nat.zero_le _, rfl, rfl, rfl, hS, hb⟩
      case round =>
        rename_i wk _ _
        clear hb hS hq2
        obtain ⟨j, x, y, hj, rfl, rfl, rfl, hS, hb⟩ := hrel
        obtain ⟨s1, s2, s3, s4, s5⟩ := hS
        by_cases hjm : j < m
        · have hji : (j : Int) < (m : Int) := by omega
          by_cases hy : y ≤ 150
          · by_cases hx : x ≤ 16384
            · obtain ⟨gb, go, rfl, gc⟩ := hr.cells (by omega)
              have gj := gc j hjm
              have gj2 := gj.below hb (World.block_lt_of_cell? _ _ gj.c0)
              have HZ : Hid (szN ls (j + 1) = szN ls j + (ls.getD j .z0).sz) := rfl
              obtain ⟨e1, e2⟩ := s5 hx hy
              have hj150 : j ≤ 150 := by omega
              clear gc gj hr h
              generalize ls.getD j .z0 = z at *
              obtain ⟨op, i, mm, bq, bl, bc, kq, kl, kc, xb, xk⟩ := z
              obtain ⟨c0, c1, c2, c3, c4⟩ := gj2
              dsimp only [Dv.sz] at *
              clear s5
              have E1 : Hid _ := e1
              have E2 : Hid _ := e2
              clear e1 e2 c0 c1 c2
              go_wp2_with fail
              go_quiet (fail)
              go_wp2_with fail
              go_roundw
              case rel =>
                have z1 := HZ.out
                have z2 := E1.out
                have z3 := E2.out
                have hm : (x + ((if 16385 < (bl : Int) then 16385 else (bl : Int)) + if 16385 < (kl : Int) then 16385 else (kl : Int))) = ((T + szN ls (j + 1) : Nat) : Int) := by
                  rw [z1, z2]
                  split <;> split <;> omega
                have hs1 : szN ls (j + 1) ≤ szN ls j + 32770 := by rw [z1]; omega
                refine ⟨j + 1, _, _, by omega, by go_num, rfl, rfl, ?_, below_drewN hb nq⟩
                rw [hm]
                exact ⟨by omega, by omega, by omega, by omega, fun _ _ => ⟨rfl, by omega⟩⟩
              case measure => simp [intOf]; omega
            · go_wp2_with fail
              exact ⟨⟨k + 1, x, y, by omega, by go_num, rfl, rfl, ⟨s1, s2, s3, s4, fun h _ => absurd h hx⟩, hb⟩, by simp [intOf]; omega⟩
          · go_wp2_with fail
            exact ⟨⟨k + 1, x, y, by omega, by go_num, rfl, rfl, ⟨s1, s2, s3, s4, fun _ h => absurd h hy⟩, hb⟩, by simp [intOf]; omega⟩
        · obtain rfl : j = m := by omega
          go_wp2_with fail
          exact ⟨⟨k + 1, x, y, by omega, by go_num, rfl, rfl, ⟨s1, s2, s3, s4, fun h1 h2 => by rw [HT.out, HC.out]; exact s5 h1 h2⟩, hb⟩, by simp [intOf]; omega⟩
    · obtain rfl : k = n := by omega
      obtain ⟨s1, s2, s3, s4, s5⟩ := hS
      have hL := h.len
      by_cases hq : y ≤ 150
      · go_wp2_with fail
        go_ret
        refine ⟨⟨_, rfl, fun hb => ?_⟩, hb⟩
        have hx : x ≤ 16384 := of_decide_eq_true hb
        obtain ⟨e1, e2⟩ := s5 hx hq
        rw [hL]
        omega
      · go_wp2_with fail
        go_ret
        exact ⟨⟨_, rfl, fun hb => by cases hb⟩, hb⟩

theorem szN_small {ls : List Dv} : ∀ k, szN ls k ≤ 16384 → bytesN ls k ≤ szN ls k ∧ ∀ j, j < k → (ls.getD j .z0).bl ≤ 16384 ∧ (ls.getD j .z0).kl ≤ 16384
  | 0, _ => ⟨Nat.le_refl _, fun _ h => absurd h (Nat.not_lt_zero _)⟩
  | k + 1, h => by
    have h' : szN ls k + (min (ls.getD k .z0).bl 16385 + min (ls.getD k .z0).kl 16385) ≤ 16384 := h
    obtain ⟨i1, i2⟩ := szN_small (ls := ls) k (by omega)
    refine ⟨?_, fun j hj => ?_⟩
    · show bytesN ls k + (ls.getD k .z0).bl ≤ szN ls k + (min (ls.getD k .z0).bl 16385 + min (ls.getD k .z0).kl 16385)
      omega
    · by_cases e : j = k
      · subst e; omega
      · exact i2 j (by omega)

theorem tot_one {LL : List (List Dv)} : ∀ k, totN LL k ≤ 16384 → ∀ j, j < k → szN (LL.getD j []) (LL.getD j []).length ≤ 16384 ∧ (LL.getD j []).length ≤ cntN LL k
  | 0, _, _, h => absurd h (Nat.not_lt_zero _)
  | k + 1, h, j, hj => by
    have h' : totN LL k + szN (LL.getD k []) (LL.getD k []).length ≤ 16384 := h
    have e : cntN LL (k + 1) = cntN LL k + (LL.getD k []).length := rfl
    by_cases ej : j = k
    · subst ej; omega
    · have := tot_one (LL := LL) k (by omega) j (by omega)
      omega

/-- What a short answer says of each list. -/
theorem short_of {LL : List (List Dv)} (h : totN LL LL.length ≤ 16384 ∧ cntN LL LL.length ≤ 150) {j : Nat} (hj : j < LL.length) : (LL.getD j []).length ≤ 150 ∧ Small (LL.getD j []) ∧ bytesN (LL.getD j []) (LL.getD j []).length ≤ 16384 := by
  obtain ⟨h1, h2⟩ := tot_one _ h.1 j hj
  obtain ⟨h3, h4⟩ := szN_small _ h1
  exact ⟨Nat.le_trans h2 h.2, h4, Nat.le_trans h3 h1⟩

end Go.Proofs.Ytcgpdaalehgjdaa.M
