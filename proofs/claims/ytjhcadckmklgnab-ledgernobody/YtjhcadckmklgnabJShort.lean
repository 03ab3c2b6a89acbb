/-
  Own text: what short answers, of any lists of calls.
-/
import Derived.Test.YtjhcadckmklgnabJData
import Derived.Lib.QuietBelow
namespace Go.Proofs.Ytjhcadckmklgnab.M
open Go.ChangeShapes Go.WideShapes Go.ChangeAt Go.RowKit

/-- A call's length, as short counts it. -/
def Dj.sz (x : Dj) : Nat := min x.bl 4097

/-- That of the first k. -/
def szN (ls : List Dj) : Nat → Nat
  | 0 => 0
  | k + 1 => szN ls k + (ls.getD k default).sz

/-- That of the first k lists, and how many calls they have. -/
def totN (LL : List (List Dj)) : Nat → Nat
  | 0 => 0
  | k + 1 => totN LL k + szN (LL.getD k []) (LL.getD k []).length
def cntN (LL : List (List Dj)) : Nat → Nat
  | 0 => 0
  | k + 1 => cntN LL k + (LL.getD k []).length

/-- Slices of calls. -/
structure RdJJ (w : World) (p : Option Addr) (n : Nat) (LL : List (List Dj)) : Prop where
  len : LL.length = n
  cells : 0 < n → ∃ b o, p = some ⟨b, o, none⟩ ∧ ∀ j, j < n → ∃ q m d, w.cell? ⟨b, o + j, none⟩ = some (.slice q m d) ∧ RdJ w q m d (LL.getD j [])

/-- What short has counted. -/
def Sh (t c : Nat) (x y : Int) : Prop := 0 ≤ x ∧ x ≤ 9000 ∧ 0 ≤ y ∧ y ≤ 151 ∧ (x ≤ 4096 → y ≤ 150 → x = t ∧ y = c)

/-- What it answers. -/
def ShE (LL : List (List Dj)) (e : Ending) : Prop := ∃ b, e = .returned (.bool b) ∧ (b = true → totN LL LL.length ≤ 4096 ∧ cntN LL LL.length ≤ 150)

set_option maxRecDepth 20000 in
set_option maxHeartbeats 2000000 in
theorem short_any (w : World) (p : Option Addr) (n c : Nat) (LL : List (List Dj)) (h : RdJJ w p n LL) (hn : n ≤ 1000) :
    Calls Try.prog 4 #[.slice p n c] w fun e w' => ShE LL e ∧ Below w.heap.size w w' := by
  go_enter Try.func4, Try.ntmps4
  go_wp2_with fail
  go_loopw [3, 4, 10] (fun x y i wr => ∃ (k : Nat) (p q : Int), k ≤ n ∧ i = .int .i64 k ∧ x = .int .i64 p ∧ y = .int .i64 q ∧ Sh (totN LL k) (cntN LL k) p q ∧ Below w.heap.size w wr) (fun _ _ i _ => n - (intOf i).toNat)
  case atStart => exact ⟨0, 0, 0, Nat.zero_le _, rfl, rfl, rfl, ⟨by decide, by decide, by decide, by decide, fun _ _ => ⟨rfl, rfl⟩⟩, Below.refl _ _⟩
  case round =>
    obtain ⟨k, x, y, hk, rfl, rfl, rfl, hS, hb⟩ := hrel
    by_cases hkn : k < n
    · have hki : (k : Int) < (n : Int) := by omega
      obtain ⟨b, o, rfl, hc⟩ := h.cells (by omega)
      obtain ⟨q, m, d, hq, hr⟩ := hc k hkn
      have HT : Hid (totN LL (k + 1) = totN LL k + szN (LL.getD k []) (LL.getD k []).length) := rfl
      have HC : Hid (cntN LL (k + 1) = cntN LL k + (LL.getD k []).length) := rfl
      have hq2 := cell_belowB hb (World.block_lt_of_cell? _ _ hq) hq
      have hlen := hr.len
      clear hc hq
      generalize LL.getD k [] = ls at *
      generalize totN LL k = T at *
      generalize cntN LL k = C at *
      rw [hlen] at HT HC
      go_wp2_with fail
      go_loopw [3, 4, 7] (fun x y i wq => ∃ (j : Nat) (p q : Int), j ≤ m ∧ i = .int .i64 j ∧ x = .int .i64 p ∧ y = .int .i64 q ∧ Sh (T + szN ls j) (C + j) p q ∧ Below w.heap.size w wq) (fun _ _ i _ => m - (intOf i).toNat)
      case atStart => exact ⟨0, x, y, Nat.zero_le _, rfl, rfl, rfl, hS, hb⟩
      case round =>
        rename_i wk _ _
        clear hb hS hq2
        obtain ⟨j, x, y, hj, rfl, rfl, rfl, hS, hb⟩ := hrel
        obtain ⟨s1, s2, s3, s4, s5⟩ := hS
        by_cases hjm : j < m
        · have hji : (j : Int) < (m : Int) := by omega
          by_cases hy : y ≤ 150
          · by_cases hx : x ≤ 4096
            · obtain ⟨gb, go, rfl, gc⟩ := hr.cells (by omega)
              have gj := gc j hjm
              have gj2 := gj.below hb (World.block_lt_of_cell? _ _ gj.c0)
              have HZ : Hid (szN ls (j + 1) = szN ls j + (ls.getD j default).sz) := rfl
              obtain ⟨e1, e2⟩ := s5 hx hy
              have hj150 : j ≤ 150 := by omega
              clear gc gj hr h
              generalize ls.getD j default = z at *
              obtain ⟨zk, zn, zs, ze, bq, bl, bc, raw, by_, off, xb⟩ := z
              obtain ⟨c0, c1, c2, c3, c4, c5, c6, c7⟩ := gj2
              dsimp only [Dj.sz] at *
              clear s5
              have E1 : Hid _ := e1
              have E2 : Hid _ := e2
              clear e1 e2 c0 c1 c2 c3 c5 c6 c7
              go_wp2_with fail
              have z1 := HZ.out
              have z2 := E1.out
              have z3 := E2.out
              have hm : (x + (if 4097 < (bl : Int) then 4097 else (bl : Int))) = ((T + szN ls (j + 1) : Nat) : Int) := by
                rw [z1, z2]
                split <;> omega
              have hs1 : szN ls (j + 1) ≤ szN ls j + 4097 := by rw [z1]; omega
              refine ⟨⟨j + 1, _, _, by omega, by go_num, rfl, rfl, ?_, hb⟩, by simp [intOf]; omega⟩
              rw [hm]
              exact ⟨by omega, by omega, by omega, by omega, fun _ _ => ⟨rfl, by omega⟩⟩
            · go_wp2_with fail
              exact ⟨⟨k + 1, x, y, by omega, by go_num, rfl, rfl, ⟨s1, s2, s3, s4, fun h _ => absurd h hx⟩, hb⟩, by simp [intOf]; omega⟩
          · go_wp2_with fail
            exact ⟨⟨k + 1, x, y, by omega, by go_num, rfl, rfl, ⟨s1, s2, s3, s4, fun _ h => absurd h hy⟩, hb⟩, by simp [intOf]; omega⟩
        · obtain rfl : j = m := by omega
          go_wp2_with fail
          exact ⟨⟨k + 1, x, y, by omega, by go_num, rfl, rfl, ⟨s1, s2, s3, s4, fun h1 h2 => by rw [HT.out, HC.out]; exact s5 h1 h2⟩, hb⟩, by simp [intOf]; omega⟩
    · obtain rfl : k = n := by omega
      obtain ⟨s1, s2, s3, s4, s5⟩ := hS
      have hL := h.len
      by_cases hq : y ≤ 150
      · go_wp2_with fail
        go_ret
        refine ⟨⟨_, rfl, fun hb => ?_⟩, hb⟩
        have hx : x ≤ 4096 := of_decide_eq_true hb
        obtain ⟨e1, e2⟩ := s5 hx hq
        rw [hL]
        omega
      · go_wp2_with fail
        go_ret
        exact ⟨⟨_, rfl, fun hb => by cases hb⟩, hb⟩

theorem szN_small {ls : List Dj} : ∀ k, szN ls k ≤ 4096 → ∀ j, j < k → (ls.getD j default).bl ≤ 4096
  | 0, _ => fun _ h => absurd h (Nat.not_lt_zero _)
  | k + 1, h => by
    have h' : szN ls k + min (ls.getD k default).bl 4097 ≤ 4096 := h
    have i2 := szN_small (ls := ls) k (by omega)
    intro j hj
    by_cases e : j = k
    · subst e; omega
    · exact i2 j (by omega)

theorem tot_one {LL : List (List Dj)} : ∀ k, totN LL k ≤ 4096 → ∀ j, j < k → szN (LL.getD j []) (LL.getD j []).length ≤ 4096 ∧ (LL.getD j []).length ≤ cntN LL k
  | 0, _, _, h => absurd h (Nat.not_lt_zero _)
  | k + 1, h, j, hj => by
    have h' : totN LL k + szN (LL.getD k []) (LL.getD k []).length ≤ 4096 := h
    have e : cntN LL (k + 1) = cntN LL k + (LL.getD k []).length := rfl
    by_cases ej : j = k
    · subst ej; omega
    · have := tot_one (LL := LL) k (by omega) j (by omega)
      omega

/-- Their bytes are not many. -/
def Small (ls : List Dj) : Prop := ∀ j, j < ls.length → (ls.getD j default).bl ≤ 4096

/-- What a short answer says of each list. -/
theorem short_of {LL : List (List Dj)} (h : totN LL LL.length ≤ 4096 ∧ cntN LL LL.length ≤ 150) {j : Nat} (hj : j < LL.length) : (LL.getD j []).length ≤ 150 ∧ Small (LL.getD j []) := by
  obtain ⟨h1, h2⟩ := tot_one _ h.1 j hj
  exact ⟨Nat.le_trans h2 h.2, szN_small _ h1⟩

theorem RdJ.one {w : World} {b : Nat} {x : Dj} (h : x.at w b 0) (hr : x.rd w) : RdJ w (some ⟨b, 0, none⟩) 1 1 [x] :=
  ⟨rfl, fun _ => ⟨b, 0, rfl, fun j hj => by
    obtain rfl : j = 0 := by omega
    exact h⟩, fun j hj => by
    obtain rfl : j = 0 := by omega
    exact hr⟩

/-- Two lists. -/
theorem RdJJ.two {w : World} {b : Nat} {p q : Option Addr} {n c m d : Nat} {ls ks : List Dj} (h0 : w.cell? ⟨b, 0, none⟩ = some (.slice p n c)) (h1 : w.cell? ⟨b, 1, none⟩ = some (.slice q m d)) (r0 : RdJ w p n c ls) (r1 : RdJ w q m d ks) : RdJJ w (some ⟨b, 0, none⟩) 2 [ls, ks] :=
  ⟨rfl, fun _ => ⟨b, 0, rfl, fun j hj => by
    rw [Nat.zero_add]
    match j, hj with
    | 0, _ => exact ⟨p, n, c, h0, r0⟩
    | 1, _ => exact ⟨q, m, d, h1, r1⟩⟩⟩

end Go.Proofs.Ytjhcadckmklgnab.M
