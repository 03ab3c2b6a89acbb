/-
  Own text: the contract of the reference's Check; it is the program's.
-/
import Derived.Test.YtigojnpjpagfjaaDoorYCheck
namespace Go.Proofs.YtigojnpjpagfjaaDoor.M
open Go.ChangeShapes Go.WideShapes Go.ChangeAt Go.RowKit

/-- A member beside those ahead of it: another node than each, of a site not below. -/
def clr (pre : List Mb) (m : Mb) : Bool := pre.all fun q => !(q.n == m.n) && decide (q.s ≤ m.s)

/-- Members behind others, one by one. -/
def goR : List Mb → List Mb → Bool
  | _, [] => true
  | pre, m :: l => isMb m && (clr pre m && goR (pre ++ [m]) l)

/-- How many of the nodes 0 to 5 a set lacks. -/
def lack (X : Nat) : Nat := (List.range 6).countP fun i => !X.testBit i

theorem lack_step (X : Nat) (n : Int) (h0 : 0 ≤ n) (h5 : n < 6) (h : hasN X n = false) : lack (X ||| bitN n) + 1 = lack X := by
  obtain ⟨k, rfl⟩ := Int.eq_ofNat_of_zero_le h0
  have hb : bitN (k : Int) = 2 ^ k := by unfold bitN; rw [if_pos (by omega), Int.toNat_natCast]
  have ht : X.testBit k = false := by
    unfold hasN at h
    rw [decide_eq_true (by omega), Int.toNat_natCast] at h
    simpa using h
  rw [hb]
  have hk : k < 6 := by omega
  unfold lack
  have hr : List.range 6 = [0, 1, 2, 3, 4, 5] := by decide
  rw [hr]
  simp only [List.countP_cons, List.countP_nil, Nat.testBit_or, Nat.testBit_two_pow]
  match k, hk with
  | 0, _ => simp [ht]
  | 1, _ => simp [ht]; omega
  | 2, _ => simp [ht]; omega
  | 3, _ => simp [ht]; omega
  | 4, _ => simp [ht]; omega
  | 5, _ => simp [ht]; omega

theorem isMb_iff (m : Mb) : isMb m = true ↔ 0 ≤ m.n ∧ m.n < 6 ∧ 0 ≤ m.s ∧ m.s < 3 := by
  unfold isMb
  simp [and_assoc]

theorem goC_len : ∀ (X : Nat) (T : Int) (l : List Mb), goC X T l = true → l.length ≤ lack X
  | _, _, [], _ => Nat.zero_le _
  | X, T, m :: l, h => by
    unfold goC at h
    simp only [Bool.and_eq_true, Bool.not_eq_true', decide_eq_true_eq] at h
    obtain ⟨h1, h2, h3, h4⟩ := h
    have hm := (isMb_iff m).1 h1
    have := goC_len _ _ l h4
    have h5 := lack_step X m.n hm.1 hm.2.1 h2
    simp only [List.length_cons]
    omega

theorem hasN_or (X : Nat) (a n : Int) (ha : 0 ≤ a) (h6 : a < 6) (hn : 0 ≤ n) (hn6 : n < 6) : hasN (X ||| bitN a) n = (hasN X n || (a == n)) := by
  obtain ⟨i, rfl⟩ := Int.eq_ofNat_of_zero_le ha
  obtain ⟨j, rfl⟩ := Int.eq_ofNat_of_zero_le hn
  have hb : bitN (i : Int) = 2 ^ i := by unfold bitN; rw [if_pos (by omega), Int.toNat_natCast]
  unfold hasN
  rw [hb, decide_eq_true (by omega), Int.toNat_natCast, Nat.testBit_or, Nat.testBit_two_pow, Bool.true_and, Bool.true_and]
  congr 1
  by_cases h : i = j
  · subst h; simp
  · rw [decide_eq_false h]; simp; omega

/-- What the two ways of asking know of what stands ahead. -/
structure Met (X : Nat) (T : Int) (pre : List Mb) : Prop where
  le : ∀ q ∈ pre, q.s ≤ T
  top : pre = [] ∧ T = 0 ∨ ∃ q ∈ pre, q.s = T
  set : ∀ n : Int, 0 ≤ n → n < 6 → hasN X n = pre.any fun q => q.n == n

theorem goC_eq : ∀ (l : List Mb) (X : Nat) (T : Int) (pre : List Mb), Met X T pre → goC X T l = goR pre l
  | [], _, _, _, _ => rfl
  | m :: l, X, T, pre, hM => by
    unfold goC goR
    cases h1 : isMb m with
    | false => rfl
    | true =>
      have hm := (isMb_iff m).1 h1
      have hs := hM.set m.n hm.1 hm.2.1
      by_cases hc : (!hasN X m.n && decide (T ≤ m.s)) = true
      · simp only [Bool.and_eq_true, Bool.not_eq_true', decide_eq_true_eq] at hc
        have hcl : clr pre m = true := by
          unfold clr
          rw [List.all_eq_true]
          intro q hq
          have h3 : (q.n == m.n) = false := by
            rw [hc.1] at hs
            have := List.any_eq_false.1 hs.symm q hq
            simpa using this
          have h4 := hM.le q hq
          rw [h3, decide_eq_true (by omega)]
          rfl
        rw [hc.1, hcl, decide_eq_true hc.2]
        simp only [Bool.not_false, Bool.true_and]
        refine goC_eq l _ _ _ ⟨fun q hq => ?_, Or.inr ⟨m, by simp, rfl⟩, fun n h5 h6 => ?_⟩
        · rcases List.mem_append.1 hq with h | h
          · have := hM.le q h; omega
          · rw [List.mem_singleton.1 h]; exact Int.le_refl _
        · rw [hasN_or X m.n n hm.1 hm.2.1 h5 h6, hM.set n h5 h6, List.any_append]
          simp
      · have hcl : clr pre m = false := by
          unfold clr
          rw [List.all_eq_false]
          cases hh : hasN X m.n with
          | true =>
            rw [hh] at hs
            obtain ⟨q, hq, he⟩ := List.any_eq_true.1 hs.symm
            exact ⟨q, hq, by rw [he]; simp⟩
          | false =>
            rw [hh] at hc
            simp only [Bool.not_false, Bool.true_and, decide_eq_true_eq] at hc
            rcases hM.top with ⟨rfl, rfl⟩ | ⟨q, hq, he⟩
            · omega
            · exact ⟨q, hq, by rw [decide_eq_false (by omega)]; simp⟩
        rw [hcl]
        cases hh : hasN X m.n with
        | true => rfl
        | false =>
          rw [hh] at hc
          simp only [Bool.not_false, Bool.true_and, decide_eq_true_eq] at hc
          rw [decide_eq_false hc]
          rfl

theorem met0 : Met 0 0 [] := ⟨fun _ h => (by cases h), Or.inl ⟨rfl, rfl⟩, fun n _ _ => by unfold hasN; simp⟩

/-- The reference's answer. -/
def rchk (e : Int) (ms : List Mb) : Bool := decide (1 ≤ e) && (decide (e ≤ 1099511627776) && (decide (ms.length ≤ 6) && (headOk ms && goR [] ms)))

theorem rchk_eq (e : Int) (ms : List Mb) : rchk e ms = chk e ms := by
  unfold rchk chk
  rw [goC_eq ms 0 0 [] met0]
  by_cases h : ms.length ≤ 6
  · rw [decide_eq_true h, Bool.true_and]
  · rw [decide_eq_false h, Bool.false_and]
    have : goR [] ms = false := by
      cases hg : goR [] ms with
      | false => rfl
      | true =>
        rw [← goC_eq ms 0 0 [] met0] at hg
        have := goC_len _ _ _ hg
        have h6 : lack 0 = 6 := by decide
        omega
    rw [this]
    simp

theorem take_snoc_mb {l : List Mb} {k : Nat} (h : k < l.length) : l.take (k + 1) = l.take k ++ [l.getD k .z0] := by
  rw [List.take_succ_eq_append_getElem h, List.getD_eq_getElem?_getD, List.getElem?_eq_getElem h]
  rfl

set_option maxRecDepth 20000 in
set_option maxHeartbeats 2000000 in
theorem rCheck_any (e : Int) (p : Option Addr) (n c : Nat) (ms : List Mb) (w : World) (hr : RdM w p n c ms) (hn : n ≤ 5864062014805) :
    Calls Tryd.prog 40 #[.agg #[.int .i64 e, .slice p n c]] w fun r w' => r = .returned (chkV (chk e ms)) ∧ Below w.heap.size w w' := by
  rw [← rchk_eq]
  have hl := hr.len
  have hcap := hr.cap
  have hb0 : Below w.heap.size w (w.alloc (.cells #[.int .i64 e, .slice p n c] 28)) := (Below.refl _ _).alloc (Nat.le_refl _) _
  by_cases h1 : e < 1
  · have HC : Hid (rchk e ms = false) := by unfold Hid rchk; rw [decide_eq_false (by omega)]; rfl
    clear hr hl hn
    go_enter Tryd.func40, Tryd.ntmps40
    go_wp2_with fail
    go_ret
    exact ⟨by rw [HC.out]; rfl, hb0⟩
  by_cases h2 : 1099511627776 < e
  · have HC : Hid (rchk e ms = false) := by unfold Hid rchk; rw [decide_eq_true (by omega), decide_eq_false (by omega)]; rfl
    clear hr hl hn
    go_enter Tryd.func40, Tryd.ntmps40
    go_wp2_with fail
    go_ret
    exact ⟨by rw [HC.out]; rfl, hb0⟩
  by_cases h3 : n = 0
  · subst h3
    obtain rfl : ms = [] := List.length_eq_zero_iff.1 hl
    have HC : Hid (rchk e [] = false) := by unfold Hid rchk; rw [decide_eq_true (by omega), decide_eq_true (by omega)]; rfl
    clear hr hl hn
    go_enter Tryd.func40, Tryd.ntmps40
    go_wp2_with fail
    go_ret
    exact ⟨by rw [HC.out]; rfl, hb0⟩
  by_cases h6 : 6 < n
  · have HC : Hid (rchk e ms = false) := by unfold Hid rchk; rw [decide_eq_true (by omega), decide_eq_true (by omega), decide_eq_false (by omega)]; rfl
    clear hr hl
    go_enter Tryd.func40, Tryd.ntmps40
    go_wp2_with fail
    go_ret
    exact ⟨by rw [HC.out]; rfl, hb0⟩
  have h4 : 0 < n := by omega
  have hne : ((n : Int) == 0) = false := by simp; omega
  have hd6 : decide ((6 : Int) < (n : Int)) = false := decide_eq_false (by omega)
  obtain ⟨b, o, rfl, hc⟩ := hr.cells h4
  have hlt := World.block_lt_of_cell? _ _ (hc 0 h4).1
  have hf0 : w.cell? ⟨b, o + 2, none⟩ = some (.bool (ms.getD 0 .z0).f) := by have := (hc 0 h4).2.2; rwa [Nat.zero_mul, Nat.add_zero] at this
  have hfa : (w.alloc (.cells #[.int .i64 e, .slice (some ⟨b, o, none⟩) n c] 28)).cell? ⟨b, o + 2, none⟩ = some (.bool (ms.getD 0 .z0).f) := by rw [hb0.cell (p := ⟨b, o + 2, none⟩) hlt]; exact hf0
  have hh := headOk_get (ms := ms) (by omega)
  have HCC : Hid (rchk e ms = (headOk ms && goR [] ms)) := by unfold Hid rchk; rw [decide_eq_true (by omega), decide_eq_true (by omega), decide_eq_true (by omega)]; rfl
  cases hfr : (ms.getD 0 .z0).f with
  | true =>
    have HC : Hid (rchk e ms = false) := by unfold Hid; rw [HCC.out, hh, hfr]; rfl
    rw [hfr] at hfa hf0
    clear hr hh hfr HCC hc
    go_enter Tryd.func40, Tryd.ntmps40
    go_wp2_with fail
    go_ret
    exact ⟨by rw [HC.out]; rfl, hb0⟩
  | false =>
    have HC : Hid (rchk e ms = goR [] ms) := by unfold Hid; rw [HCC.out, hh, hfr]; rfl
    rw [hfr] at hfa hf0
    clear hh hfr HCC
    have hv0 : (w.alloc (.cells #[.int .i64 e, .slice (some ⟨b, o, none⟩) n c] 28)).cell? ⟨w.heap.size, 1, none⟩ = some (.slice (some ⟨b, o, none⟩) n c) := by simp
    have hbig : n < 9223372036854775808 := by omega
    go_enter Tryd.func40, Tryd.ntmps40
    go_wp2_with fail
    generalize (w.alloc (.cells #[.int .i64 e, .slice (some ⟨b, o, none⟩) n c] 28)) = w0 at *
    go_loopw [35] (fun i wr => ∃ (k : Nat), k ≤ n ∧ i = .int .i64 k ∧ Hid (goR [] ms = goR (ms.take k) (ms.drop k)) ∧ Below w.heap.size w wr ∧ wr.cell? ⟨w.heap.size, 1, none⟩ = some (.slice (some ⟨b, o, none⟩) n c)) (fun i _ => n - (intOf i).toNat)
    case atStart => exact ⟨0, Nat.zero_le _, rfl, rfl, hb0, hv0⟩
    case round =>
      clear hb0 hfa hf0 hlt
      obtain ⟨k, hk, rfl, HG, hb, hv⟩ := hrel
      by_cases h : k < n
      · obtain ⟨g1, g2, g3⟩ := hc k h
        have hlt := World.block_lt_of_cell? _ _ g1
        replace g1 := (hb.cell (p := ⟨b, o + k * 3, none⟩) hlt).trans g1
        replace g2 := (hb.cell (p := ⟨b, o + k * 3 + 1, none⟩) hlt).trans g2
        replace g3 := (hb.cell (p := ⟨b, o + k * 3 + 2, none⟩) hlt).trans g3
        have hd := drop_mb (fs := ms) (k := k) (by omega)
        have htk := take_snoc_mb (l := ms) (k := k) (by omega)
        have hG2 := HG.out
        rw [hd] at hG2
        clear HG hd
        generalize ms.getD k .z0 = m at *
        obtain ⟨mn, msi, mf⟩ := m
        dsimp only at g1 g2 g3
        have HG3 : Hid (goR [] ms = (isMb ⟨mn, msi, mf⟩ && (clr (ms.take k) ⟨mn, msi, mf⟩ && goR (ms.take (k + 1)) (ms.drop (k + 1))))) := by rw [htk]; exact hG2
        clear hG2 htk
        have hba := hb.alloc hb.size (.cells #[.int .i64 mn, .int .i64 msi, .bool mf] 45)
        have hva : (wr.alloc (.cells #[.int .i64 mn, .int .i64 msi, .bool mf] 45)).cell? ⟨w.heap.size, 1, none⟩ = some (.slice (some ⟨b, o, none⟩) n c) := by
          rw [((Below.refl wr.heap.size wr).alloc (Nat.le_refl _) _).cell (p := ⟨w.heap.size, 1, none⟩) (World.block_lt_of_cell? _ _ hv)]; exact hv
        have d0 : (wr.alloc (.cells #[.int .i64 mn, .int .i64 msi, .bool mf] 45)).cell? ⟨wr.heap.size, 0, none⟩ = some (.int .i64 mn) := by simp
        have d1 : (wr.alloc (.cells #[.int .i64 mn, .int .i64 msi, .bool mf] 45)).cell? ⟨wr.heap.size, 1, none⟩ = some (.int .i64 msi) := by simp
        by_cases hm : isMb ⟨mn, msi, mf⟩ = true
        · have hm2 := (isMb_iff _).1 hm
          dsimp only at hm2
          obtain ⟨hm3, hm4, hm5, hm6⟩ := hm2
          have HG4 : Hid (goR [] ms = (clr (ms.take k) ⟨mn, msi, mf⟩ && goR (ms.take (k + 1)) (ms.drop (k + 1)))) := by unfold Hid; rw [HG3.out, hm]; rfl
          clear HG3 hm
          have hq1 : decide (mn < 0) = false := decide_eq_false (by omega)
          have hq2 : decide (5 < mn) = false := decide_eq_false (by omega)
          have hq3 : decide (msi < 0) = false := decide_eq_false (by omega)
          have hq4 : decide (2 < msi) = false := decide_eq_false (by omega)
          go_wp2_with fail
          have hm1 : b < wr.heap.size := Nat.lt_of_lt_of_le hlt hb.size
          have hcr : ∀ i, i < n → (wr.alloc (.cells #[.int .i64 mn, .int .i64 msi, .bool mf] 45)).cell? ⟨b, o + i * 3, none⟩ = some (.int .i64 (ms.getD i .z0).n) ∧ (wr.alloc (.cells #[.int .i64 mn, .int .i64 msi, .bool mf] 45)).cell? ⟨b, o + i * 3 + 1, none⟩ = some (.int .i64 (ms.getD i .z0).s) ∧ (wr.alloc (.cells #[.int .i64 mn, .int .i64 msi, .bool mf] 45)).cell? ⟨b, o + i * 3 + 2, none⟩ = some (.bool (ms.getD i .z0).f) := fun i hi => by
            obtain ⟨f1, f2, f3⟩ := hc i hi
            exact ⟨(hba.cell (p := ⟨b, o + i * 3, none⟩) hlt).trans f1, (hba.cell (p := ⟨b, o + i * 3 + 1, none⟩) hlt).trans f2, (hba.cell (p := ⟨b, o + i * 3 + 2, none⟩) hlt).trans f3⟩
          have hvs : wr.heap.size < (wr.alloc (.cells #[.int .i64 mn, .int .i64 msi, .bool mf] 45)).heap.size := by simp
          have hvb : w.heap.size < (wr.alloc (.cells #[.int .i64 mn, .int .i64 msi, .bool mf] 45)).heap.size := World.block_lt_of_cell? _ _ hva
          have hbs : b < (wr.alloc (.cells #[.int .i64 mn, .int .i64 msi, .bool mf] 45)).heap.size := Nat.lt_trans hm1 hvs
          clear g1 g2 g3 hb hv hc hr hm1 hlt hv0
          generalize (wr.alloc (.cells #[.int .i64 mn, .int .i64 msi, .bool mf] 45)) = w1 at *
          generalize wr.heap.size = B at *
          go_loopw [63] (fun i wr => ∃ (j : Nat), j ≤ k ∧ i = .int .i64 j ∧ Hid (clr (ms.take k) ⟨mn, msi, mf⟩ = clr ((ms.take k).drop j) ⟨mn, msi, mf⟩) ∧ Below w1.heap.size w1 wr) (fun i _ => k - (intOf i).toNat)
          case atStart => exact ⟨0, Nat.zero_le _, rfl, rfl, Below.refl _ _⟩
          case round =>
            obtain ⟨j, hj, rfl, HJ, hb⟩ := hrel
            by_cases hjk : j < k
            · obtain ⟨f1, f2, f3⟩ := hcr j (by omega)
              replace f1 := (hb.cell (p := ⟨b, o + j * 3, none⟩) hbs).trans f1
              replace f2 := (hb.cell (p := ⟨b, o + j * 3 + 1, none⟩) hbs).trans f2
              replace f3 := (hb.cell (p := ⟨b, o + j * 3 + 2, none⟩) hbs).trans f3
              replace d0 := (hb.cell (p := ⟨B, 0, none⟩) hvs).trans d0
              replace d1 := (hb.cell (p := ⟨B, 1, none⟩) hvs).trans d1
              have hd := drop_mb (fs := ms.take k) (k := j) (by rw [List.length_take]; omega)
              have hg : (ms.take k).getD j .z0 = ms.getD j .z0 := by rw [List.getD_eq_getElem?_getD, List.getD_eq_getElem?_getD, List.getElem?_take, if_pos hjk]
              have hJ2 := HJ.out
              rw [hd, hg] at hJ2
              clear HJ hd hg hcr
              generalize ms.getD j .z0 = q at *
              obtain ⟨qn, qs, qf⟩ := q
              dsimp only at f1 f2 f3
              have HJ3 : Hid (clr (ms.take k) ⟨mn, msi, mf⟩ = ((!(qn == mn) && decide (qs ≤ msi)) && clr ((ms.take k).drop (j + 1)) ⟨mn, msi, mf⟩)) := hJ2
              clear hJ2
              have hbj := hb.alloc hb.size (.cells #[.int .i64 qn, .int .i64 qs, .bool qf] 45)
              have hjl : (j : Int) < (k : Int) := by omega
              have e0 : (wr.alloc (.cells #[.int .i64 qn, .int .i64 qs, .bool qf] 45)).cell? ⟨B, 0, none⟩ = some (.int .i64 mn) := by
                rw [((Below.refl wr.heap.size wr).alloc (Nat.le_refl _) _).cell (p := ⟨B, 0, none⟩) (World.block_lt_of_cell? _ _ d0)]; exact d0
              have e1 : (wr.alloc (.cells #[.int .i64 qn, .int .i64 qs, .bool qf] 45)).cell? ⟨B, 1, none⟩ = some (.int .i64 msi) := by
                rw [((Below.refl wr.heap.size wr).alloc (Nat.le_refl _) _).cell (p := ⟨B, 1, none⟩) (World.block_lt_of_cell? _ _ d1)]; exact d1
              have hbt := hba.trans (hbj.mono hba.size)
              by_cases he : qn = mn
              · have HN : Hid (rchk e ms = false) := by unfold Hid; rw [HC.out, HG4.out, HJ3.out, he]; simp
                have heq : (qn == mn) = true := by simp [he]
                clear he HJ3 HG4 hl
                go_wp2_with fail
                go_ret
                exact ⟨by rw [HN.out]; rfl, hbt⟩
              · have heq : (qn == mn) = false := by simp [he]
                by_cases hs : msi < qs
                · have HN : Hid (rchk e ms = false) := by unfold Hid; rw [HC.out, HG4.out, HJ3.out, decide_eq_false (show ¬ qs ≤ msi by omega)]; simp
                  clear he HJ3 HG4 hl
                  go_wp2_with fail
                  go_ret
                  exact ⟨by rw [HN.out]; rfl, hbt⟩
                · have HN : Hid (clr (ms.take k) ⟨mn, msi, mf⟩ = clr ((ms.take k).drop (j + 1)) ⟨mn, msi, mf⟩) := by unfold Hid; rw [HJ3.out, heq, decide_eq_true (show qs ≤ msi by omega)]; simp
                  have hs2 : decide (msi < qs) = false := decide_eq_false hs
                  clear he HJ3 HG4 hl hs
                  go_wp2_with fail
                  go_roundw
                  case rel => exact ⟨j + 1, by omega, by go_num, HN, hbj⟩
                  case measure => simp [intOf]; omega
            · obtain rfl : j = k := by omega
              have hd : (ms.take j).drop j = [] := List.drop_of_length_le (by rw [List.length_take]; omega)
              have HN : Hid (goR [] ms = goR (ms.take (j + 1)) (ms.drop (j + 1))) := by
                unfold Hid; rw [HG4.out, HJ.out, hd]; rfl
              have hbt := hba.trans (hb.mono hba.size)
              replace hva := (hb.cell (p := ⟨w.heap.size, 1, none⟩) hvb).trans hva
              clear HG4 HJ hd hcr hl
              go_wp2_with fail
              go_roundw
              case rel => exact ⟨j + 1, by omega, by go_num, HN, hbt, hva⟩
              case measure => simp [intOf]; omega
        · have HN : Hid (rchk e ms = false) := by unfold Hid; rw [HC.out, HG3.out, Bool.eq_false_iff.2 hm]; rfl
          have hm2 : mn < 0 ∨ 5 < mn ∨ msi < 0 ∨ 2 < msi := by
            have : ¬ (0 ≤ mn ∧ mn < 6 ∧ 0 ≤ msi ∧ msi < 3) := fun hx => hm ((isMb_iff _).2 hx)
            omega
          clear HG3 hm hr hc hl
          go_wp2_with fail
          all_goals first | (exfalso; omega) | skip
          all_goals go_ret
          all_goals exact ⟨by rw [HN.out]; rfl, hba⟩
      · obtain rfl : k = n := by omega
        have hd : ms.drop k = [] := List.drop_of_length_le (by omega)
        have HN : Hid (rchk e ms = true) := by
          unfold Hid; rw [HC.out, HG.out, hd]; rfl
        clear HG hd hr hl hc
        go_wp2_with fail
        go_ret
        exact ⟨by rw [HN.out]; rfl, hb⟩

end Go.Proofs.YtigojnpjpagfjaaDoor.M
