/-
  Own text: calls of the statements over tapes as they lie in memory; what short answers, of any lists of them.
-/
import Derived.Test.YtpjhadaiodnnaaaTLiv
namespace Go.Proofs.Ytpjhadaiodnnaaa.M
open Go.ChangeShapes Go.WideShapes Go.ChangeAt Go.RowKit
set_option linter.unusedSimpArgs false

/-- A call as it lies in memory, and what its slices hold. -/
structure Tv where
  op : Int
  n : Int
  bq : Option Addr
  bl : Nat
  bc : Nat
  lq : Option Addr
  ll : Nat
  lc : Nat
  kq : Option Addr
  kl : Nat
  kc : Nat
  b : List Int
  us : List Value
  l : List (List Int)
  keep : List Int

def Tv.z0 : Tv := ⟨0, 0, none, 0, 0, none, 0, 0, none, 0, 0, [], [], [], []⟩

/-- Its slices can be read. -/
structure Tv.rd (w : World) (x : Tv) : Prop where
  b : Rd .u8 w x.bq x.bl x.bc x.b
  v : RdV w x.lq x.ll x.lc x.us
  s : Sls w x.us x.l
  k : Rd .i64 w x.kq x.kl x.kc x.keep
  n : -9223372036854775808 ≤ x.n ∧ x.n ≤ 9223372036854775807
  y : By x.b
  z : ∀ d ∈ x.l, By d

theorem Tv.rd.below {w w' : World} {x : Tv} (h : x.rd w) (hb : Below w.heap.size w w') : x.rd w' := ⟨h.b.below' hb, h.v.below hb, h.s.below hb, h.k.below' hb, h.n, h.y, h.z⟩

theorem Tv.rd.ll {w : World} {x : Tv} (h : x.rd w) : x.ll = x.l.length := by rw [← h.s.1, h.v.len]

theorem cell_belowB {B : Nat} {w w' : World} {p : Addr} {v : Value} (hb : Below B w w') (hp : p.block < B) (h : w.cell? p = some v) : w'.cell? p = some v := by rw [hb.cell hp]; exact h

/-- A call's five cells. -/
structure Tv.at (w : World) (b o : Nat) (x : Tv) : Prop where
  c0 : w.cell? ⟨b, o, none⟩ = some (.int .i64 x.op)
  c1 : w.cell? ⟨b, o + 1, none⟩ = some (.int .i64 x.n)
  c2 : w.cell? ⟨b, o + 2, none⟩ = some (.slice x.bq x.bl x.bc)
  c3 : w.cell? ⟨b, o + 3, none⟩ = some (.slice x.lq x.ll x.lc)
  c4 : w.cell? ⟨b, o + 4, none⟩ = some (.slice x.kq x.kl x.kc)

theorem Tv.at.below {w w' : World} {b o : Nat} {x : Tv} (h : x.at w b o) {B : Nat} (hb : Below B w w') (hB : b < B) : x.at w' b o :=
  ⟨cell_belowB hb hB h.c0, cell_belowB hb hB h.c1, cell_belowB hb hB h.c2, cell_belowB hb hB h.c3, cell_belowB hb hB h.c4⟩

/-- A slice of calls that can be read. -/
structure RdT (w : World) (p : Option Addr) (n : Nat) (ls : List Tv) : Prop where
  len : ls.length = n
  cells : 0 < n → ∃ b o, p = some ⟨b, o, none⟩ ∧ ∀ j, j < n → (ls.getD j .z0).at w b (o + j * 5)
  rd : ∀ j, j < n → (ls.getD j .z0).rd w

theorem RdT.below {w w' : World} {p : Option Addr} {n : Nat} {ls : List Tv} (h : RdT w p n ls) (hb : Below w.heap.size w w') : RdT w' p n ls :=
  ⟨h.len, fun h0 => by
    obtain ⟨b, o, e, hc⟩ := h.cells h0
    exact ⟨b, o, e, fun j hj => (hc j hj).below hb (World.block_lt_of_cell? _ _ (hc j hj).c0)⟩, fun j hj => (h.rd j hj).below hb⟩

/-- The length of the first k records, as short counts them. -/
def lsz (l : List (List Int)) : Nat → Nat
  | 0 => 0
  | k + 1 => lsz l k + (4 + min (l.getD k []).length 16385)

theorem lsz_ge (l : List (List Int)) : ∀ k, 4 * k ≤ lsz l k
  | 0 => Nat.le_refl _
  | k + 1 => by
    have := lsz_ge l k
    show 4 * (k + 1) ≤ lsz l k + (4 + min (l.getD k []).length 16385)
    omega

/-- A call's length, as short counts it. -/
def Tv.sz (x : Tv) : Nat := min x.bl 16385 + min x.kl 16385 + lsz x.l x.ll

def szT (ls : List Tv) : Nat → Nat
  | 0 => 0
  | k + 1 => szT ls k + (ls.getD k .z0).sz

def totT (LL : List (List Tv)) : Nat → Nat
  | 0 => 0
  | k + 1 => totT LL k + szT (LL.getD k []) (LL.getD k []).length
def cntT (LL : List (List Tv)) : Nat → Nat
  | 0 => 0
  | k + 1 => cntT LL k + (LL.getD k []).length

/-- Slices of calls. -/
structure RdTT (w : World) (p : Option Addr) (n : Nat) (LL : List (List Tv)) : Prop where
  len : LL.length = n
  cells : 0 < n → ∃ b o, p = some ⟨b, o, none⟩ ∧ ∀ j, j < n → ∃ q m d, w.cell? ⟨b, o + j, none⟩ = some (.slice q m d) ∧ RdT w q m (LL.getD j [])

/-- What short has counted. -/
def Sh (t c : Nat) (x y : Int) : Prop := 0 ≤ x ∧ x ≤ 60000 ∧ 0 ≤ y ∧ y ≤ 61 ∧ (x ≤ 16384 → y ≤ 60 → x = t ∧ y = c)

/-- What it answers. -/
def ShE (LL : List (List Tv)) (e : Ending) : Prop := ∃ b, e = .returned (.bool b) ∧ (b = true → totT LL LL.length ≤ 16384 ∧ cntT LL LL.length ≤ 60)

/-- What it has counted while it goes through a call's records. -/
def Sk (l : List (List Int)) (x0 k : Nat) (x : Int) : Prop := 0 ≤ x ∧ x ≤ 60000 ∧ (x ≤ 16384 → x = x0 + lsz l k)

set_option maxRecDepth 20000 in
set_option maxHeartbeats 4000000 in
theorem short_any (w : World) (p : Option Addr) (n c : Nat) (LL : List (List Tv)) (h : RdTT w p n LL) (hn : n ≤ 1000) :
    Calls Try.prog 17 #[.slice p n c] w fun e w' => ShE LL e ∧ Below w.heap.size w w' := by
  go_enter Try.func17, Try.ntmps17
  go_wp2_with fail
  go_loopw [3, 4, 11] (fun x y i wr => ∃ (k : Nat) (p q : Int), k ≤ n ∧ i = .int .i64 k ∧ x = .int .i64 p ∧ y = .int .i64 q ∧ Sh (totT LL k) (cntT LL k) p q ∧ Below w.heap.size w wr) (fun _ _ i _ => n - (intOf i).toNat)
  case atStart => exact ⟨0, 0, 0, Nat.zero_le _, rfl, rfl, rfl, ⟨by decide, by decide, by decide, by decide, fun _ _ => ⟨rfl, rfl⟩⟩, Below.refl _ _⟩
  case round =>
    obtain ⟨k, x, y, hk, rfl, rfl, rfl, hS, hb⟩ := hrel
    by_cases hkn : k < n
    · have hki : (k : Int) < (n : Int) := by omega
      obtain ⟨b, o, rfl, hc⟩ := h.cells (by omega)
      obtain ⟨q, m, d, hq, hr⟩ := hc k hkn
      have HT : Hid (totT LL (k + 1) = totT LL k + szT (LL.getD k []) (LL.getD k []).length) := rfl
      have HC : Hid (cntT LL (k + 1) = cntT LL k + (LL.getD k []).length) := rfl
      have hq2 := cell_belowB hb (World.block_lt_of_cell? _ _ hq) hq
      have hlen := hr.len
      clear hc hq
      generalize LL.getD k [] = ls at *
      generalize totT LL k = T at *
      generalize cntT LL k = C at *
      rw [hlen] at HT HC
      go_wp2_with fail
      go_loopw [3, 4, 7] (fun x y i wq => ∃ (j : Nat) (p q : Int), j ≤ m ∧ i = .int .i64 j ∧ x = .int .i64 p ∧ y = .int .i64 q ∧ Sh (T + szT ls j) (C + j) p q ∧ Below w.heap.size w wq) (fun _ _ i _ => m - (intOf i).toNat)
      case atStart => exact ⟨0, x, y, Nat.zero_le _, rfl, rfl, rfl, hS, hb⟩
      case round =>
        rename_i wk _ _
        clear hb hS hq2
        obtain ⟨j, x, y, hj, rfl, rfl, rfl, hS, hb⟩ := hrel
        obtain ⟨s1, s2, s3, s4, s5⟩ := hS
        by_cases hjm : j < m
        · have hji : (j : Int) < (m : Int) := by omega
          by_cases hy : y ≤ 60
          · by_cases hx : x ≤ 16384
            · obtain ⟨gb, go, rfl, gc⟩ := hr.cells (by omega)
              have gj := gc j hjm
              have gj2 := gj.below hb (World.block_lt_of_cell? _ _ gj.c0)
              have gr := hr.rd j hjm
              have HZ : Hid (szT ls (j + 1) = szT ls j + (ls.getD j .z0).sz) := rfl
              obtain ⟨e1, e2⟩ := s5 hx hy
              have hj150 : j ≤ 60 := by omega
              have HLE : Hid ((ls.getD j .z0).ll = (ls.getD j .z0).l.length) := gr.ll
              have HV : Hid (RdV w (ls.getD j .z0).lq (ls.getD j .z0).ll (ls.getD j .z0).lc (ls.getD j .z0).us) := gr.v
              have HSl : Hid (Sls w (ls.getD j .z0).us (ls.getD j .z0).l) := gr.s
              have HC3 : Hid (w.cell? ⟨gb, go + j * 5 + 3, none⟩ = some (.slice (ls.getD j .z0).lq (ls.getD j .z0).ll (ls.getD j .z0).lc)) := gj.c3
              clear gc gj hr h gr
              generalize ls.getD j .z0 = z at *
              obtain ⟨op, zn, bq, bl, bc, lq, ll, lc, kq, kl, kc, xb, us, xl, xk⟩ := z
              obtain ⟨c0, c1, c2, c3, c4⟩ := gj2
              dsimp only [Tv.sz] at *
              clear s5
              have E1 : Hid (x = ((T + szT ls j : Nat) : Int)) := e1
              have E2 : Hid (y = ((C + j : Nat) : Int)) := e2
              have HB : Hid (Below w.heap.size w wr) := hb
              clear e1 e2 c0 c1 c3 hb
              go_wp2_with fail
              go_quiet (fail)
              go_wp2_with fail
              all_goals
                go_loopw [3, 8] (fun x i wz => ∃ (kk : Nat) (p : Int), kk ≤ ll ∧ i = .int .i64 kk ∧ x = .int .i64 p ∧ Sk xl (T + szT ls j + (min bl 16385 + min kl 16385)) kk p ∧ Below w.heap.size w wz) (fun _ i _ => ll - (intOf i).toNat)
                case atStart =>
                  have z2 := E1.out
                  exact ⟨0, _, Nat.zero_le _, rfl, rfl, ⟨by omega, by omega, fun _ => by show _ = ((_ + 0 : Nat) : Int); omega⟩, below_drewN HB.out nq⟩
                case round =>
                  obtain ⟨kk, x3, hkk, rfl, rfl, hS3, hb3⟩ := hrel
                  obtain ⟨t1, t2, t3⟩ := hS3
                  have d3 := cell_belowB hb3 (World.block_lt_of_cell? _ _ HC3.out) HC3.out
                  have hfin : ¬ (kk < ll ∧ x3 ≤ 16384) → ∃ (j1 : Nat) (p q : Int), j1 ≤ m ∧ Value.int .i64 ((j : Int) + 1) = .int .i64 j1 ∧ Value.int .i64 x3 = .int .i64 p ∧ Value.int .i64 (y + 1) = .int .i64 q ∧ Sh (T + szT ls j1) (C + j1) p q ∧ Below w.heap.size w wr := fun hn3 => by
                    have z1 := HZ.out
                    have z3 := E2.out
                    refine ⟨j + 1, x3, y + 1, by omega, by go_num, rfl, rfl, ⟨t1, t2, by omega, by omega, fun h1 h2 => ?_⟩, hb3⟩
                    obtain rfl : kk = ll := by omega
                    have := t3 h1
                    rw [z1]
                    omega
                  by_cases hkl : kk < ll
                  · have hkli : (kk : Int) < (ll : Int) := by omega
                    by_cases hx3 : x3 ≤ 16384
                    · clear hfin
                      obtain ⟨lb, lo, rfl, hcl⟩ := HV.out.cells (by omega)
                      obtain ⟨q3, m3, d4, hq3, hr3⟩ := HSl.out.2 kk (by rw [HV.out.len]; exact hkl)
                      have hcv := hcl kk hkl
                      rw [hq3] at hcv
                      have hcv3 := cell_belowB hb3 (World.block_lt_of_cell? _ _ hcv) hcv
                      have HM : Hid (lsz xl (kk + 1) = lsz xl kk + (4 + min m3 16385)) := by show _ = _; rw [← hr3.len]; rfl
                      have HT3 : Hid (x3 = ((T + szT ls j + (min bl 16385 + min kl 16385)) + lsz xl kk : Nat)) := t3 hx3
                      have HB3 : Hid (Below w.heap.size w wr) := hb3
                      have hkk4 : kk ≤ 4096 := by have h1 := lsz_ge xl kk; have h2 := HT3.out; omega
                      clear hcl hq3 hr3 hcv t3 hb3
                      go_wp2_with fail
                      all_goals
                        go_roundw
                        case rel =>
                          have q1 := HM.out
                          have q2 := HT3.out
                          exact ⟨kk + 1, _, by omega, by go_num, rfl, ⟨by omega, by omega, fun _ => by rw [q1]; omega⟩, HB3.out⟩
                        case measure => simp [intOf]; omega
                    · have hx3i : ¬ x3 ≤ 16384 := hx3
                      have HF := hfin (fun h => hx3 h.2)
                      clear hfin t3
                      go_wp2_with fail
                      exact ⟨HF, by simp [intOf]; omega⟩
                  · have hkli : ¬ (kk : Int) < (ll : Int) := by omega
                    have HF := hfin (fun h => hkl h.1)
                    clear hfin t3
                    go_wp2_with fail
                    exact ⟨HF, by simp [intOf]; omega⟩
            · go_wp2_with fail
              exact ⟨⟨k + 1, x, y, by omega, by go_num, rfl, rfl, ⟨s1, s2, s3, s4, fun h _ => absurd h hx⟩, hb⟩, by simp [intOf]; omega⟩
          · go_wp2_with fail
            exact ⟨⟨k + 1, x, y, by omega, by go_num, rfl, rfl, ⟨s1, s2, s3, s4, fun _ h => absurd h hy⟩, hb⟩, by simp [intOf]; omega⟩
        · obtain rfl : j = m := by omega
          go_wp2_with fail
          exact ⟨⟨k + 1, x, y, by omega, by go_num, rfl, rfl, ⟨s1, s2, s3, s4, fun h1 h2 => by rw [HT.out, HC.out]; exact s5 h1 h2⟩, hb⟩, by simp [intOf]; omega⟩
    · obtain rfl : k = n := by omega
      obtain ⟨s1, s2, s3, s4, s5⟩ := hS
      have hL := h.len
      by_cases hq : y ≤ 60
      · go_wp2_with fail
        go_ret
        refine ⟨⟨_, rfl, fun hb => ?_⟩, hb⟩
        have hx : x ≤ 16384 := of_decide_eq_true hb
        obtain ⟨e1, e2⟩ := s5 hx hq
        rw [hL]
        omega
      · go_wp2_with fail
        go_ret
        exact ⟨⟨_, rfl, fun hb => by cases hb⟩, hb⟩

end Go.Proofs.Ytpjhadaiodnnaaa.M
