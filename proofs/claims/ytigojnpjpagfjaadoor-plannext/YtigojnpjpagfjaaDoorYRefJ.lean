/-
  Own text: the contract of the reference's Join.
-/
import Derived.Test.YtigojnpjpagfjaaDoorYRefR
namespace Go.Proofs.YtigojnpjpagfjaaDoor.M
open Go.ChangeShapes Go.WideShapes Go.ChangeAt Go.RowKit

/-- How many there are ahead of the first member of a site behind. -/
def behN (s : Int) : List Mb → Nat
  | [] => 0
  | m :: l => if s < m.s then 0 else behN s l + 1

theorem behN_ix (s : Int) : ∀ (l : List Mb) (k : Nat), (ixM (fun m => decide (s < m.s)) k l = -1 ∧ behN s l = l.length) ∨ (ixM (fun m => decide (s < m.s)) k l = ((k + behN s l : Nat) : Int) ∧ behN s l < l.length)
  | [], _ => Or.inl ⟨rfl, rfl⟩
  | m :: l, k => by
    unfold ixM behN
    by_cases h : s < m.s
    · rw [if_pos (decide_eq_true h), if_pos h]
      exact Or.inr ⟨by simp, by simp⟩
    · rw [if_neg (by simpa using h), if_neg h]
      rcases behN_ix s l (k + 1) with ⟨h1, h2⟩ | ⟨h1, h2⟩
      · exact Or.inl ⟨h1, by rw [h2]; rfl⟩
      · exact Or.inr ⟨by rw [h1]; omega, by rw [List.length_cons]; omega⟩

theorem behM_N (ms : List Mb) (s : Int) : behM ms s = (behN s ms : Int) := by
  unfold behM
  rcases behN_ix s ms 0 with ⟨h1, h2⟩ | ⟨h1, h2⟩
  · rw [if_pos h1, h2]
  · rw [h1, if_neg (by omega)]; omega

theorem behN_le (s : Int) : ∀ (l : List Mb), behN s l ≤ l.length
  | [] => Nat.le_refl _
  | m :: l => by
    unfold behN
    have := behN_le s l
    split
    · exact Nat.zero_le _
    · rw [List.length_cons]; omega

theorem behN_lt (s : Int) : ∀ (l : List Mb) (k : Nat), k < behN s l → ¬ s < (l.getD k .z0).s
  | [], k, h => absurd h (Nat.not_lt_zero _)
  | m :: l, k, h => by
    unfold behN at h
    by_cases hm : s < m.s
    · rw [if_pos hm] at h
      exact absurd h (Nat.not_lt_zero _)
    · rw [if_neg hm] at h
      cases k with
      | zero => exact hm
      | succ k => exact behN_lt s l k (by omega)

theorem behN_at (s : Int) : ∀ (l : List Mb), behN s l < l.length → s < (l.getD (behN s l) .z0).s
  | [], h => absurd h (Nat.not_lt_zero _)
  | m :: l, h => by
    unfold behN at h ⊢
    by_cases hm : s < m.s
    · rw [if_pos hm]
      exact hm
    · rw [if_neg hm] at h ⊢
      exact behN_at s l (by rw [List.length_cons] at h; omega)

/-- What is written behind k members. -/
def jl (ms : List Mb) (i : Nat) (m : Mb) (k : Nat) : List Mb := if i < k then insM (ms.take k) i m else ms.take k

theorem jl_lt {ms : List Mb} {i k : Nat} {m : Mb} (h : k < ms.length) (hk : k < i) : jl ms i m (k + 1) = jl ms i m k ++ [ms.getD k .z0] := by
  unfold jl
  rw [if_neg (by omega), if_neg (by omega)]
  exact take_snoc_mb h

theorem jl_at {ms : List Mb} {k : Nat} {m : Mb} (h : k < ms.length) : jl ms k m (k + 1) = (jl ms k m k ++ [m]) ++ [ms.getD k .z0] := by
  unfold jl
  rw [if_pos (by omega), if_neg (by omega), take_snoc_mb h]
  unfold insM
  have e : (ms.take k).length = k := by rw [List.length_take]; omega
  rw [List.take_append_of_le_length (by omega), List.take_of_length_le (by omega), List.drop_append_of_le_length (by omega), List.drop_of_length_le (by omega), List.append_assoc]
  rfl

theorem jl_gt {ms : List Mb} {i k : Nat} {m : Mb} (h : k < ms.length) (hk : i < k) : jl ms i m (k + 1) = jl ms i m k ++ [ms.getD k .z0] := by
  unfold jl
  rw [if_pos (by omega), if_pos hk, take_snoc_mb h]
  unfold insM
  have e : (ms.take k).length = k := by rw [List.length_take]; omega
  rw [List.take_append_of_le_length (by omega), List.drop_append_of_le_length (by omega), List.append_assoc]
  rfl

theorem jl_end {ms : List Mb} {i n : Nat} {m : Mb} (h : ms.length = n) (hi : i < n) : insM ms i m = jl ms i m n := by
  unfold jl
  rw [if_pos hi, List.take_of_length_le (by omega)]

theorem jl_end2 {ms : List Mb} {n : Nat} {m : Mb} (h : ms.length = n) : insM ms n m = jl ms n m n ++ [m] := by
  unfold jl insM
  rw [if_neg (by omega), List.take_of_length_le (by omega), List.drop_of_length_le (by omega)]

theorem jl_len (ms : List Mb) (i k : Nat) (m : Mb) : (jl ms i m k).length ≤ k + 1 := by
  unfold jl
  split
  · rw [insM_len, List.length_take]; omega
  · rw [List.length_take]; omega

theorem new0 (W : World) (a s : Int) (f : Bool) : (W.alloc (.cells #[.int .i64 a, .int .i64 s, .bool f] 45)).cell? ⟨W.heap.size, 0, none⟩ = some (.int .i64 a) := by simp
theorem new1 (W : World) (a s : Int) (f : Bool) : (W.alloc (.cells #[.int .i64 a, .int .i64 s, .bool f] 45)).cell? ⟨W.heap.size, 1, none⟩ = some (.int .i64 s) := by simp
theorem new2 (W : World) (a s : Int) (f : Bool) : (W.alloc (.cells #[.int .i64 a, .int .i64 s, .bool f] 45)).cell? ⟨W.heap.size, 2, none⟩ = some (.bool f) := by simp

/-- A block is as it was. -/
def KeptB (y : Nat) (w w' : World) : Prop := w'.heap[y]? = w.heap[y]?

theorem rows2 (w : World) (o1 o2 : Obj) : ((w.alloc o1).alloc o2).heap[w.heap.size]? = some o1 := by
  have hb : Below (w.heap.size + 1) (w.alloc o1) ((w.alloc o1).alloc o2) := (Below.refl _ _).alloc (by simp) _
  rw [hb.block w.heap.size (Nat.lt_succ_self _)]
  exact heap_alloc_new _ _

theorem wpList_appOwM2 {P : Program} (w : World) {ops : Array Oper} {rest : List Oper} {o : Oper} {a : Act} {Q : Exit → Act → World → Prop} (hgd : o.guard = none) (s x : Operand) (t : TypeId)
    (hop : o.op = .call { callee := .builtin .append, args := #[s, x], argTypes := #[t, t] })
    (i : TypeInfo) (z : Value) (ht : P.underlying t = some (.slice 45)) (hi : P.info? 45 = some i) (hz : i.zero = some z) (hsize : i.size = 3) (hby : i.bytes = 24) (hzs : z.cells.size = 3)
    (B : Nat) (v : Value) (M : List Mb) (hs : a.eval s = v) (ho : OwM w B v M) (g d : Nat) (m : Mb) (hx : a.eval x = .slice (some ⟨g, 0, none⟩) 1 d)
    (c0 : w.cell? ⟨g, 0, none⟩ = some (.int .i64 m.n)) (c1 : w.cell? ⟨g, 1, none⟩ = some (.int .i64 m.s)) (c2 : w.cell? ⟨g, 2, none⟩ = some (.bool m.f)) (hM : M.length ≤ 1099511627776) (hB : B ≤ w.heap.size)
    (y : Nat) (hy : y < w.heap.size) (hv : ∀ a n c, v = .slice (some a) n c → a.block ≠ y)
    (h : ∀ v' w', OwM w' B v' (M ++ [m]) → Below B w w' → KeptB y w w' → wpList P ops Q rest (a.put o.dst v') w') : wpList P ops Q (o :: rest) a w := by
  refine wpList_append_own w hgd s x t hop B 45 i z 3 24 ht hi hz hsize hby hzs (by decide) v M.length (cellsM M M.length) hs ho ⟨g, 0, none⟩ 1 d m.cs hx rfl ?_ (cs_one m) (by unfold maxLen; omega) (by omega) hB ?_
  · intro j u hj
    rw [Addr.add_lit, Nat.zero_add]
    match j, hj with
    | 0, hj => cases hj; exact c0
    | 1, hj => cases hj; exact c1
    | 2, hj => cases hj; exact c2
  · intro v' w' h1 h2 _
    refine h v' w' ?_ ?_ ?_
    · unfold OwM
      rw [cellsM_snoc, List.length_append]
      exact h1
    · refine (Below.refl B w).grown h2 hB fun r hr => ?_
      rcases ho.2 with ⟨rfl, _⟩ | ⟨g', cap, cur, rfl, hg, _⟩
      · cases hr
      · cases hr; exact hg
    · unfold KeptB
      refine h2.block y hy fun e => ?_
      rcases ho.2 with ⟨rfl, _⟩ | ⟨g', cap, cur, rfl, hg, _⟩
      · cases e
      · cases e; exact hv _ _ _ rfl rfl

set_option maxRecDepth 20000 in
set_option maxHeartbeats 4000000 in
theorem rJoin_any (e : Int) (p : Option Addr) (n c : Nat) (ms : List Mb) (m : Mb) (w : World) (hr : RdM w p n c ms) (hn : n ≤ 5864062014805) :
    Calls Tryd.prog 43 #[.agg #[.int .i64 e, .slice p n c], .agg #[.int .i64 m.n, .int .i64 m.s, .bool m.f]] w fun r w' => ∃ v, r = .returned v ∧ Told w.heap.size w' v (joinR e ms m) ∧ Below w.heap.size w w' := by
  obtain ⟨mn, msi, mf⟩ := m
  dsimp only
  have hF := Gr.new2 w e p n c (.cells #[.int .i64 mn, .int .i64 msi, .bool mf] 45)
  have hb0 : Below w.heap.size w (((w.alloc (.cells #[.int .i64 e, .slice p n c] 28)).alloc (.cells #[.int .i64 mn, .int .i64 msi, .bool mf] 45)).alloc (.cells #[.int .i64 0, .slice none 0 0] 28)) := (((Below.refl _ _).alloc (Nat.le_refl _) _).alloc (by simp) _).alloc (by simp; omega) _
  have hmrow := (rows3 w (.cells #[.int .i64 e, .slice p n c] 28) (.cells #[.int .i64 mn, .int .i64 msi, .bool mf] 45) (.cells #[.int .i64 0, .slice none 0 0] 28)).2.1
  have hl := hr.len
  have hr0 := hr.below hb0
  have hC := rCheck_any e p n c ms _ hr0 hn
  unfold chkV at hC
  obtain ⟨i0, hi0, hz0, hz1, hz2⟩ := info_parts infoM
  generalize hw : w.heap.size = b at *
  go_enter Tryd.func43, Tryd.ntmps43
  go_wp2_with fail
  generalize (((w.alloc (.cells #[.int .i64 e, .slice p n c] 28)).alloc (.cells #[.int .i64 mn, .int .i64 msi, .bool mf] 45)).alloc (.cells #[.int .i64 0, .slice none 0 0] 28)) = w0 at *
  refine hC.mono ?_
  rintro r w1 ⟨rfl, hb1⟩
  have hlt0 := hF.lt
  have hF1 := hF.below hb1
  have hB1 := hb0.trans (hb1.mono (by omega))
  have hr1 := hr0.below hb1
  have hm1 : w1.heap[b + 1]? = some (.cells #[.int .i64 mn, .int .i64 msi, .bool mf] 45) := (hb1.block (b + 1) (by omega)).trans hmrow
  clear hC hmrow
  cases hk : chk e ms with
  | false =>
    have HR : Hid True := trivial
    have hk1 := hF1
    obtain ⟨a0, a1, b0, b1, f0, f1, lt, br⟩ := hF1
    simp only [Bool.false_eq_true, if_false]
    have HRx : Hid (joinR e ms ⟨mn, msi, mf⟩ = .error 80) := by unfold Hid; unfold joinR; rw [hk]; rfl
    have e0 := hk1.put0 (.int .i64 0) (.slice none 0 0)
    have e1 := hk1.put1 (.int .i64 0) (.slice none 0 0)
    have hbb := Gr.putB hB1 (show b ≤ b + 1 + 1 by omega) (.int .i64 0) (.slice none 0 0)
    clear HR hF hr hr0 hb0 hb1 hk hr1 hm1
    go_wp2_with fail
    exact bodyPost_ret (results_chain (p := 4) (u := 5) rfl _ _ (b + 1 + 1) _ _ rfl e0 e1) rfl ⟨_, rfl, by rw [HRx.out]; rfl, hbb⟩
  | true =>
    obtain ⟨he1, he2, hn0, hn6⟩ := chk_parts hk
    have hP := rPlace_any e p n c ms mn w1 hr1 hn
    have hbd := plc_bounds e ms mn
    have hin := behN_le msi ms
    have HR : Hid (joinR e ms ⟨mn, msi, mf⟩ = if isMb ⟨mn, msi, mf⟩ = false then .error 81 else
        if decide (0 ≤ plc e ms mn) = true then .error 82 else if 1099511627776 ≤ e then .error 5 else
        if behN msi ms = 0 then .error 152 else .ok (e + 1, insM ms (behN msi ms) ⟨mn, msi, true⟩)) := by
      unfold Hid joinR
      dsimp only
      rw [hk, has_plc hk, behM_N, Int.toNat_natCast]
      simp only [Bool.true_eq_false, if_false, Int.natCast_eq_zero]
    have hI := isMb_iff ⟨mn, msi, mf⟩
    dsimp only at hI
    have HA := fun k => behN_lt msi ms k
    have HB := behN_at msi ms
    generalize plc e ms mn = z at *
    generalize behN msi ms = i at *
    have hk1 := hF1
    obtain ⟨a0, a1, b0, b1, f0, f1, lt, br⟩ := hF1
    have x0 := cell_row hm1 (j := 0) (v := .int .i64 mn) rfl
    have x1 := cell_row hm1 (j := 1) (v := .int .i64 msi) rfl
    clear hF hr hr0 hb0 hb1 hk
    simp only [if_true]
    by_cases q1 : mn < 0
    · clear HA HB
      have HRx : Hid (joinR e ms ⟨mn, msi, mf⟩ = .error 81) := by unfold Hid; rw [HR.out, if_pos (by cases hh : isMb ⟨mn, msi, mf⟩ with | false => rfl | true => exact absurd (hI.1 hh) (by omega))]
      have e0 := hk1.put0 (.int .i64 0) (.slice none 0 0)
      have e1 := hk1.put1 (.int .i64 0) (.slice none 0 0)
      have hbb := Gr.putB hB1 (show b ≤ b + 1 + 1 by omega) (.int .i64 0) (.slice none 0 0)
      clear HR hbd hI hP
      go_wp2_with fail
      exact bodyPost_ret (results_chain (p := 4) (u := 5) rfl _ _ (b + 1 + 1) _ _ rfl e0 e1) rfl ⟨_, rfl, by rw [HRx.out]; rfl, hbb⟩
    by_cases q2 : 5 < mn
    · clear HA HB
      have HRx : Hid (joinR e ms ⟨mn, msi, mf⟩ = .error 81) := by unfold Hid; rw [HR.out, if_pos (by cases hh : isMb ⟨mn, msi, mf⟩ with | false => rfl | true => exact absurd (hI.1 hh) (by omega))]
      have e0 := hk1.put0 (.int .i64 0) (.slice none 0 0)
      have e1 := hk1.put1 (.int .i64 0) (.slice none 0 0)
      have hbb := Gr.putB hB1 (show b ≤ b + 1 + 1 by omega) (.int .i64 0) (.slice none 0 0)
      clear HR hbd hI hP
      go_wp2_with fail
      exact bodyPost_ret (results_chain (p := 4) (u := 5) rfl _ _ (b + 1 + 1) _ _ rfl e0 e1) rfl ⟨_, rfl, by rw [HRx.out]; rfl, hbb⟩
    by_cases q3 : msi < 0
    · clear HA HB
      have HRx : Hid (joinR e ms ⟨mn, msi, mf⟩ = .error 81) := by unfold Hid; rw [HR.out, if_pos (by cases hh : isMb ⟨mn, msi, mf⟩ with | false => rfl | true => exact absurd (hI.1 hh) (by omega))]
      have e0 := hk1.put0 (.int .i64 0) (.slice none 0 0)
      have e1 := hk1.put1 (.int .i64 0) (.slice none 0 0)
      have hbb := Gr.putB hB1 (show b ≤ b + 1 + 1 by omega) (.int .i64 0) (.slice none 0 0)
      clear HR hbd hI hP
      go_wp2_with fail
      exact bodyPost_ret (results_chain (p := 4) (u := 5) rfl _ _ (b + 1 + 1) _ _ rfl e0 e1) rfl ⟨_, rfl, by rw [HRx.out]; rfl, hbb⟩
    by_cases q4 : 2 < msi
    · clear HA HB
      have HRx : Hid (joinR e ms ⟨mn, msi, mf⟩ = .error 81) := by unfold Hid; rw [HR.out, if_pos (by cases hh : isMb ⟨mn, msi, mf⟩ with | false => rfl | true => exact absurd (hI.1 hh) (by omega))]
      have e0 := hk1.put0 (.int .i64 0) (.slice none 0 0)
      have e1 := hk1.put1 (.int .i64 0) (.slice none 0 0)
      have hbb := Gr.putB hB1 (show b ≤ b + 1 + 1 by omega) (.int .i64 0) (.slice none 0 0)
      clear HR hbd hI hP
      go_wp2_with fail
      exact bodyPost_ret (results_chain (p := 4) (u := 5) rfl _ _ (b + 1 + 1) _ _ rfl e0 e1) rfl ⟨_, rfl, by rw [HRx.out]; rfl, hbb⟩
    have hIs : isMb ⟨mn, msi, mf⟩ = true := hI.2 ⟨by omega, by omega, by omega, by omega⟩
    clear hI
    have hA2 : Hid (∀ k, k < i → ¬ msi < (ms.getD k .z0).s) := HA
    have hB2' : Hid (i < ms.length → msi < (ms.getD i .z0).s) := HB
    clear HA HB
    go_wp2_with fail
    refine hP.mono ?_
    rintro r w2 ⟨rfl, hb2⟩
    have hk2 := hk1.below hb2
    have hB2 := hB1.trans (hb2.mono (by omega))
    have hr2 := hr1.below hb2
    have hm2 := (hb2.block (b + 1) (by omega)).trans hm1
    clear a0 a1 b0 b1 f0 f1 x0 x1 hP hr1 hk1 q1 q2 q3 q4 hm1
    have hk2' := hk2
    obtain ⟨a0, a1, b0, b1, f0, f1, lt2, br2⟩ := hk2'
    have x0 := cell_row hm2 (j := 0) (v := .int .i64 mn) rfl
    have x1 := cell_row hm2 (j := 1) (v := .int .i64 msi) rfl
    by_cases hz : 0 ≤ z
    · have hz82 : decide (0 ≤ z) = true := decide_eq_true hz
      have HRx : Hid (joinR e ms ⟨mn, msi, mf⟩ = .error 82) := by unfold Hid; rw [HR.out, if_neg (by rw [hIs]; decide), if_pos hz82]
      have e0 := hk2.put0 (.int .i64 0) (.slice none 0 0)
      have e1 := hk2.put1 (.int .i64 0) (.slice none 0 0)
      have hbb := Gr.putB hB2 (show b ≤ b + 1 + 1 by omega) (.int .i64 0) (.slice none 0 0)
      clear HR hbd hA2 hB2' hIs
      go_wp2_with fail
      exact bodyPost_ret (results_chain (p := 4) (u := 5) rfl _ _ (b + 1 + 1) _ _ rfl e0 e1) rfl ⟨_, rfl, by rw [HRx.out]; rfl, hbb⟩
    have hzd : decide (0 ≤ z) = false := decide_eq_false hz
    by_cases h40 : e = 1099511627776
    · have h40b : (e == 1099511627776) = true := by simp [h40]
      have HRx : Hid (joinR e ms ⟨mn, msi, mf⟩ = .error 5) := by unfold Hid; rw [HR.out, if_neg (by rw [hIs]; decide), if_neg (by rw [hzd]; decide), if_pos (by omega)]
      have e0 := hk2.put0 (.int .i64 0) (.slice none 0 0)
      have e1 := hk2.put1 (.int .i64 0) (.slice none 0 0)
      have hbb := Gr.putB hB2 (show b ≤ b + 1 + 1 by omega) (.int .i64 0) (.slice none 0 0)
      clear HR hbd hA2 hB2' hIs
      go_wp2_with fail
      exact bodyPost_ret (results_chain (p := 4) (u := 5) rfl _ _ (b + 1 + 1) _ _ rfl e0 e1) rfl ⟨_, rfl, by rw [HRx.out]; rfl, hbb⟩
    have h40b : (e == 1099511627776) = false := by simp [h40]
    obtain ⟨gq, oq, rfl, cq⟩ := hr2.cells (by omega)
    have hs0 := (cq 0 (by omega)).2.1
    rw [Nat.zero_mul, Nat.add_zero] at hs0
    have hi0' : (i = 0 ↔ msi < (ms.getD 0 .z0).s) := by
      constructor
      · intro h
        have := hB2'.out (by omega)
        rwa [h] at this
      · intro h
        by_cases hi : i = 0
        · exact hi
        · exact absurd (hA2.out 0 (by omega)) (by omega)
    clear cq
    generalize (ms.getD 0 .z0).s = s0 at *
    by_cases hs : msi < s0
    · have hi1 : i = 0 := hi0'.2 hs
      have hsd : decide (msi < s0) = true := decide_eq_true hs
      clear hi0'
      have HRx : Hid (joinR e ms ⟨mn, msi, mf⟩ = .error 152) := by unfold Hid; rw [HR.out, if_neg (by rw [hIs]; decide), if_neg (by rw [hzd]; decide), if_neg (by omega), if_pos hi1]
      have e0 := hk2.put0 (.int .i64 0) (.slice none 0 0)
      have e1 := hk2.put1 (.int .i64 0) (.slice none 0 0)
      have hbb := Gr.putB hB2 (show b ≤ b + 1 + 1 by omega) (.int .i64 0) (.slice none 0 0)
      clear HR hbd hA2 hB2' hIs hi1
      go_wp2_with go_region
      exact bodyPost_ret (results_chain (p := 4) (u := 5) rfl _ _ (b + 1 + 1) _ _ rfl e0 e1) rfl ⟨_, rfl, by rw [HRx.out]; rfl, ⟨hbb.os, hbb.tape, hbb.output, hbb.size, hbb.block⟩⟩
    have hi1 : i ≠ 0 := fun h => hs (hi0'.1 h)
    have hsd : decide (msi < s0) = false := decide_eq_false hs
    have HR2 : Hid (joinR e ms ⟨mn, msi, mf⟩ = .ok (e + 1, insM ms i ⟨mn, msi, true⟩)) := by unfold Hid; rw [HR.out, if_neg (by rw [hIs]; decide), if_neg (by rw [hzd]; decide), if_neg (by omega), if_neg hi1]
    have hwe : IntKind.i64.wrap (e + 1) = e + 1 := by rw [IntKind.wrap_i64]; omega
    clear HR hi0' hIs
    have hb3 : Below w2.heap.size w2 (w2.alloc (.cells #[.int .i64 (e + 1), .slice none 0 0] 28)) := (Below.refl _ _).alloc (Nat.le_refl _) _
    have hO := Ob.new w2 (e + 1)
    have hk3 := hk2.below hb3
    have d0 := hk3.a1
    go_wp2_with go_region
    go_loopw [7, 59] (fun pt j wr => ∃ k : Nat, ∃ v, k ≤ n ∧ j = .int .i64 k ∧ pt = .bool (decide (i < k)) ∧ Ob wr w2.heap.size (e + 1) v (jl ms i ⟨mn, msi, true⟩ k) ∧ Below w2.heap.size w2 wr) (fun _ j _ => n - (intOf j).toNat)
    case atStart => exact ⟨0, .slice none 0 0, Nat.zero_le _, rfl, by rfl, by unfold jl; rw [if_neg (Nat.not_lt_zero _), List.take_zero]; exact ⟨hO.c0, hO.c1, hO.fz, hO.ow⟩, ⟨hb3.os, hb3.tape, hb3.output, hb3.size, hb3.block⟩⟩
    case round =>
      clear hO hk3 hb3 hzd hsd
      obtain ⟨k, v, hkn, rfl, rfl, hO, hb⟩ := hrel
      have hxl := hO.lt
      have hxs := hb.size
      have hmr := (hb.block (b + 1) (by omega)).trans hm2
      have y0 := cell_row hmr (j := 0) (v := .int .i64 mn) rfl
      have y1 := cell_row hmr (j := 1) (v := .int .i64 msi) rfl
      by_cases h : k < n
      · obtain ⟨g1, o1, hpe, c1⟩ := (hr2.below hb).cells (by omega)
        cases hpe
        obtain ⟨z1, z2, z3⟩ := c1 k h
        have hkn' : (k : Int) < (n : Int) := by omega
        have hML := jl_len ms i k ⟨mn, msi, true⟩
        have hA3 : k < i → ¬ msi < (ms.getD k .z0).s := fun h => by have := hA2.out k h; omega
        have hB3 : k = i → msi < (ms.getD k .z0).s := fun h => by rw [h]; exact hB2'.out (by omega)
        have HL1 : k < i → Hid (jl ms i ⟨mn, msi, true⟩ (k + 1) = jl ms i ⟨mn, msi, true⟩ k ++ [ms.getD k .z0]) := fun h => jl_lt (by omega) h
        have HL2 : k = i → Hid (jl ms i ⟨mn, msi, true⟩ (k + 1) = (jl ms i ⟨mn, msi, true⟩ k ++ [⟨mn, msi, true⟩]) ++ [ms.getD k .z0]) := fun h => by subst h; exact jl_at (by omega)
        have HL3 : i < k → Hid (jl ms i ⟨mn, msi, true⟩ (k + 1) = jl ms i ⟨mn, msi, true⟩ k ++ [ms.getD k .z0]) := fun h => jl_gt (by omega) h
        clear c1 hA2 hB2'
        generalize ms.getD k .z0 = f at *
        obtain ⟨fn, fs, ff⟩ := f
        dsimp only at z1 z2 z3 hA3 hB3 HL1 HL2 HL3
        generalize jl ms i ⟨mn, msi, true⟩ k = M at *
        have hbm : Below wr.heap.size wr (wr.alloc (.cells #[.int .i64 fn, .int .i64 fs, .bool ff] 45)) := (Below.refl _ _).alloc (Nat.le_refl _) _
        have u1 := hO.c1
        have u2 := (hbm.cell (p := ⟨w2.heap.size, 1, none⟩) hxl).trans u1
        have y2 := (hbm.cell (p := ⟨b + 1, 0, none⟩) (show b + 1 < wr.heap.size by omega)).trans y0
        have y3 := (hbm.cell (p := ⟨b + 1, 1, none⟩) (show b + 1 < wr.heap.size by omega)).trans y1
        rcases Nat.lt_trichotomy k i with hki | hki | hki
        · have hq : ¬ msi < fs := hA3 hki
          have HT := HL1 hki
          rw [decide_eq_false (show ¬ i < k by omega)]
          have hd2 : decide (i < k + 1) = false := decide_eq_false (by omega)
          clear hA3 hB3 HL1 HL2 HL3
          have hba : Below wr.heap.size wr ((wr.alloc (.cells #[.int .i64 fn, .int .i64 fs, .bool ff] 45)).alloc (.cells #[.int .i64 fn, .int .i64 fs, .bool ff] 45)) := ((Below.refl _ _).alloc (Nat.le_refl _) _).alloc (by simp) _
          have hO2 := hO.below hba
          have hsz : w2.heap.size + 1 ≤ ((wr.alloc (.cells #[.int .i64 fn, .int .i64 fs, .bool ff] 45)).alloc (.cells #[.int .i64 fn, .int .i64 fs, .bool ff] 45)).heap.size := by simp; omega
          clear hki
          go_wp2_with (at_builtin; refine wpList_appOwM _ rfl (.tmp 83) (.tmp 85) 26 rfl i0 (.agg #[.int .i64 0, .int .i64 0, .bool false]) Tryd.underlying26 hi0 hz0 hz1 hz2 rfl (w2.heap.size + 1) v M rfl hO2.ow (wr.heap.size + 1) 1 ⟨fn, fs, ff⟩ rfl (by simp) (by simp) (by simp) (by omega) hsz ?_)
          intro v' w' h1 h2
          obtain ⟨q', c', rfl, _, _⟩ := h1.rd
          simp only [List.length_append, List.length_singleton] at h1
          have s1 := (h2.cell (p := ⟨w2.heap.size, 1, none⟩) (Nat.lt_succ_self _)).trans hO2.c1
          have s2 := (h2.frozen (p := ⟨w2.heap.size, 1, none⟩) (Nat.lt_succ_self _)).trans hO2.fz
          go_wp2_with fail
          go_roundw
          case rel => exact ⟨k + 1, _, by omega, by go_num, by rw [hd2], by rw [HT.out]; exact hO2.app h2 h1, ((hb.trans (hba.mono hb.size)).trans (h2.mono (Nat.le_succ _))).setCell (Nat.le_refl _) _⟩
          case measure => simp [intOf]; omega
        · have hq : msi < fs := hB3 hki
          have HT := HL2 hki
          rw [decide_eq_false (show ¬ i < k by omega)]
          have hd2 : decide (i < k + 1) = true := decide_eq_true (by omega)
          have hgv : ∀ a m c, v = .slice (some a) m c → a.block ≠ wr.heap.size := fun a m c ha => by
            rcases hO.ow.2 with ⟨h1, _⟩ | ⟨g', cap, cur, h1, hg, hh, _⟩
            · rw [h1] at ha; cases ha
            · rw [h1] at ha
              cases ha
              exact Nat.ne_of_lt (Array.getElem?_eq_some_iff.1 hh).1
          have hne : w2.heap.size ≠ wr.heap.size := by omega
          clear hA3 hB3 HL1 HL2 HL3 hki
          have hba : Below wr.heap.size wr ((wr.alloc (.cells #[.int .i64 fn, .int .i64 fs, .bool ff] 45)).alloc (.cells #[.int .i64 mn, .int .i64 msi, .bool true] 45)) := ((Below.refl _ _).alloc (Nat.le_refl _) _).alloc (by simp) _
          have hrow : ((wr.alloc (.cells #[.int .i64 fn, .int .i64 fs, .bool ff] 45)).alloc (.cells #[.int .i64 mn, .int .i64 msi, .bool true] 45)).heap[wr.heap.size]? = some (.cells #[.int .i64 fn, .int .i64 fs, .bool ff] 45) := rows2 wr (.cells #[.int .i64 fn, .int .i64 fs, .bool ff] 45) (.cells #[.int .i64 mn, .int .i64 msi, .bool true] 45)
          have hO2 := hO.below hba
          have hsz : w2.heap.size + 1 ≤ ((wr.alloc (.cells #[.int .i64 fn, .int .i64 fs, .bool ff] 45)).alloc (.cells #[.int .i64 mn, .int .i64 msi, .bool true] 45)).heap.size := by simp; omega
          have hsy : wr.heap.size < ((wr.alloc (.cells #[.int .i64 fn, .int .i64 fs, .bool ff] 45)).alloc (.cells #[.int .i64 mn, .int .i64 msi, .bool true] 45)).heap.size := by simp; omega
          go_wp2_with (at_builtin; refine wpList_appOwM2 _ rfl (.tmp 73) (.tmp 79) 26 rfl i0 (.agg #[.int .i64 0, .int .i64 0, .bool false]) Tryd.underlying26 hi0 hz0 hz1 hz2 rfl (w2.heap.size + 1) v M rfl hO2.ow (wr.heap.size + 1) 1 ⟨mn, msi, true⟩ rfl (by simp) (by simp) (by simp) (by omega) hsz wr.heap.size hsy hgv ?_)
          intro v1 w' h1 h2 h3
          obtain ⟨q', c', rfl, _, _⟩ := h1.rd
          simp only [List.length_append, List.length_singleton] at h1
          have s1 := (h2.cell (p := ⟨w2.heap.size, 1, none⟩) (Nat.lt_succ_self _)).trans hO2.c1
          have s2 := (h2.frozen (p := ⟨w2.heap.size, 1, none⟩) (Nat.lt_succ_self _)).trans hO2.fz
          have hO3 := hO2.app h2 h1
          have hrow3 : (w'.setCell ⟨w2.heap.size, 1, none⟩ (.slice q' (M.length + 1) c')).heap[wr.heap.size]? = some (.cells #[.int .i64 fn, .int .i64 fs, .bool ff] 45) := by
            simp only [World.setCell, Array.getElem?_modify]
            rw [if_neg hne]
            exact Eq.trans (show w'.heap[wr.heap.size]? = _ from h3) hrow
          have hbw : Below w2.heap.size w2 (w'.setCell ⟨w2.heap.size, 1, none⟩ (.slice q' (M.length + 1) c')) := ((hb.trans (hba.mono hb.size)).trans (h2.mono (Nat.le_succ _))).setCell (Nat.le_refl _) _
          have r0 := cell_row hrow3 (j := 0) (v := .int .i64 fn) rfl
          have r1 := cell_row hrow3 (j := 1) (v := .int .i64 fs) rfl
          have r2 := cell_row hrow3 (j := 2) (v := .bool ff) rfl
          have r3 := hO3.c1
          have hbc : Below (w'.setCell ⟨w2.heap.size, 1, none⟩ (.slice q' (M.length + 1) c')).heap.size (w'.setCell ⟨w2.heap.size, 1, none⟩ (.slice q' (M.length + 1) c')) ((w'.setCell ⟨w2.heap.size, 1, none⟩ (.slice q' (M.length + 1) c')).alloc (.cells #[.int .i64 fn, .int .i64 fs, .bool ff] 45)) := (Below.refl _ _).alloc (Nat.le_refl _) _
          have hO4 := hO3.below hbc
          have hx3 := hO3.lt
          have hsz3 : w2.heap.size + 1 ≤ ((w'.setCell ⟨w2.heap.size, 1, none⟩ (.slice q' (M.length + 1) c')).alloc (.cells #[.int .i64 fn, .int .i64 fs, .bool ff] 45)).heap.size := by simp at hx3 ⊢; omega
          have hss : (w'.setCell ⟨w2.heap.size, 1, none⟩ (.slice q' (M.length + 1) c')).heap.size = w'.heap.size := by simp
          have g0 := new0 (w'.setCell ⟨w2.heap.size, 1, none⟩ (.slice q' (M.length + 1) c')) fn fs ff
          have g1 := new1 (w'.setCell ⟨w2.heap.size, 1, none⟩ (.slice q' (M.length + 1) c')) fn fs ff
          have g2 := new2 (w'.setCell ⟨w2.heap.size, 1, none⟩ (.slice q' (M.length + 1) c')) fn fs ff
          rw [hss] at g0 g1 g2
          have g3 : Hid _ := g0
          have g4 : Hid _ := g1
          have g5 : Hid _ := g2
          clear hO hO2 u1 u2 y2 y3 hrow hrow3 hgv hba hss g0 g1 g2
          go_wp2_with (at_builtin; refine wpList_appOwM _ rfl (.tmp 83) (.tmp 85) 26 rfl i0 (.agg #[.int .i64 0, .int .i64 0, .bool false]) Tryd.underlying26 hi0 hz0 hz1 hz2 rfl (w2.heap.size + 1) (.slice q' (M.length + 1) c') (M ++ [⟨mn, msi, true⟩]) rfl hO4.ow w'.heap.size 1 ⟨fn, fs, ff⟩ rfl g3.out g4.out g5.out (by simp; omega) hsz3 ?_)
          intro v2 w'' h5 h6
          obtain ⟨q2, c2, rfl, _, _⟩ := h5.rd
          have hL : (M ++ [(⟨mn, msi, true⟩ : Mb), ⟨fn, fs, ff⟩]).length = M.length + 2 := by simp
          have hA : (M ++ [(⟨mn, msi, true⟩ : Mb)]) ++ [⟨fn, fs, ff⟩] = M ++ [⟨mn, msi, true⟩, ⟨fn, fs, ff⟩] := by simp
          try rw [hA] at h5
          rw [hL] at h5
          have t1 := (h6.cell (p := ⟨w2.heap.size, 1, none⟩) (Nat.lt_succ_self _)).trans hO4.c1
          have t2 := (h6.frozen (p := ⟨w2.heap.size, 1, none⟩) (Nat.lt_succ_self _)).trans hO4.fz
          go_wp2_with fail
          go_roundw
          case rel => exact ⟨k + 1, _, by omega, by go_num, by rw [hd2], by rw [HT.out, hA]; exact hO4.app h6 h5, ((hbw.trans (hbc.mono hbw.size)).trans (h6.mono (Nat.le_succ _))).setCell (Nat.le_refl _) _⟩
          case measure => simp [intOf]; omega
        · have HT := HL3 hki
          rw [decide_eq_true hki]
          have hd2 : decide (i < k + 1) = true := decide_eq_true (by omega)
          clear hA3 hB3 HL1 HL2 HL3
          by_cases hq : msi < fs
          · skip
            have hba : Below wr.heap.size wr ((wr.alloc (.cells #[.int .i64 fn, .int .i64 fs, .bool ff] 45)).alloc (.cells #[.int .i64 fn, .int .i64 fs, .bool ff] 45)) := ((Below.refl _ _).alloc (Nat.le_refl _) _).alloc (by simp) _
            have hO2 := hO.below hba
            have hsz : w2.heap.size + 1 ≤ ((wr.alloc (.cells #[.int .i64 fn, .int .i64 fs, .bool ff] 45)).alloc (.cells #[.int .i64 fn, .int .i64 fs, .bool ff] 45)).heap.size := by simp; omega
            clear hki
            go_wp2_with (at_builtin; refine wpList_appOwM _ rfl (.tmp 83) (.tmp 85) 26 rfl i0 (.agg #[.int .i64 0, .int .i64 0, .bool false]) Tryd.underlying26 hi0 hz0 hz1 hz2 rfl (w2.heap.size + 1) v M rfl hO2.ow (wr.heap.size + 1) 1 ⟨fn, fs, ff⟩ rfl (by simp) (by simp) (by simp) (by omega) hsz ?_)
            intro v' w' h1 h2
            obtain ⟨q', c', rfl, _, _⟩ := h1.rd
            simp only [List.length_append, List.length_singleton] at h1
            have s1 := (h2.cell (p := ⟨w2.heap.size, 1, none⟩) (Nat.lt_succ_self _)).trans hO2.c1
            have s2 := (h2.frozen (p := ⟨w2.heap.size, 1, none⟩) (Nat.lt_succ_self _)).trans hO2.fz
            go_wp2_with fail
            go_roundw
            case rel => exact ⟨k + 1, _, by omega, by go_num, by rw [hd2], by rw [HT.out]; exact hO2.app h2 h1, ((hb.trans (hba.mono hb.size)).trans (h2.mono (Nat.le_succ _))).setCell (Nat.le_refl _) _⟩
            case measure => simp [intOf]; omega
          · skip
            have hba : Below wr.heap.size wr ((wr.alloc (.cells #[.int .i64 fn, .int .i64 fs, .bool ff] 45)).alloc (.cells #[.int .i64 fn, .int .i64 fs, .bool ff] 45)) := ((Below.refl _ _).alloc (Nat.le_refl _) _).alloc (by simp) _
            have hO2 := hO.below hba
            have hsz : w2.heap.size + 1 ≤ ((wr.alloc (.cells #[.int .i64 fn, .int .i64 fs, .bool ff] 45)).alloc (.cells #[.int .i64 fn, .int .i64 fs, .bool ff] 45)).heap.size := by simp; omega
            clear hki
            go_wp2_with (at_builtin; refine wpList_appOwM _ rfl (.tmp 83) (.tmp 85) 26 rfl i0 (.agg #[.int .i64 0, .int .i64 0, .bool false]) Tryd.underlying26 hi0 hz0 hz1 hz2 rfl (w2.heap.size + 1) v M rfl hO2.ow (wr.heap.size + 1) 1 ⟨fn, fs, ff⟩ rfl (by simp) (by simp) (by simp) (by omega) hsz ?_)
            intro v' w' h1 h2
            obtain ⟨q', c', rfl, _, _⟩ := h1.rd
            simp only [List.length_append, List.length_singleton] at h1
            have s1 := (h2.cell (p := ⟨w2.heap.size, 1, none⟩) (Nat.lt_succ_self _)).trans hO2.c1
            have s2 := (h2.frozen (p := ⟨w2.heap.size, 1, none⟩) (Nat.lt_succ_self _)).trans hO2.fz
            go_wp2_with fail
            go_roundw
            case rel => exact ⟨k + 1, _, by omega, by go_num, by rw [hd2], by rw [HT.out]; exact hO2.app h2 h1, ((hb.trans (hba.mono hb.size)).trans (h2.mono (Nat.le_succ _))).setCell (Nat.le_refl _) _⟩
            case measure => simp [intOf]; omega
      · obtain rfl : k = n := by omega
        have hki : ¬ (k : Int) < (k : Int) := by omega
        have hBr := hB2.trans (hb.mono (by omega))
        have hkr := hk2.below hb
        have hMl : (jl ms i ⟨mn, msi, true⟩ k).length ≤ k + 1 := jl_len _ _ _ _
        by_cases hik : i < k
        · have HE : Hid (joinR e ms ⟨mn, msi, mf⟩ = .ok (e + 1, jl ms i ⟨mn, msi, true⟩ k)) := by unfold Hid; rw [HR2.out, jl_end hl hik]
          rw [decide_eq_true hik]
          generalize jl ms i ⟨mn, msi, true⟩ k = M at *
          obtain ⟨q0, c0, rfl, hq0, hr5⟩ := hO.ow.rd
          obtain ⟨v0, v1, vf, _⟩ := hO
          clear a0 a1 b0 b1 f0 f1 hk2 hr2 hb hA2 hB2' HR2 hl
          have hkr' := hkr
          obtain ⟨a0, a1, b0, b1, f0, f1, lt5, br5⟩ := hkr'
          go_wp2_with fail
          exact bodyPost_ret (results_chain (p := 4) (u := 5) rfl _ _ (b + 1 + 1) _ _ rfl (hkr.put0 _ _) (hkr.put1 _ _)) rfl ⟨_, rfl, by
            rw [HE.out]
            refine ⟨q0, c0, rfl, (fun a ha _ => by have := hq0 a ha; omega), ?_⟩
            exact hr5.put _ _ (fun a ha _ => by have := hq0 a ha; omega), Gr.putB hBr (show b ≤ b + 1 + 1 by omega) _ _⟩
        · obtain rfl : i = k := by omega
          have HE : Hid (joinR e ms ⟨mn, msi, mf⟩ = .ok (e + 1, jl ms i ⟨mn, msi, true⟩ i ++ [⟨mn, msi, true⟩])) := by unfold Hid; rw [HR2.out, jl_end2 hl]
          rw [decide_eq_false hik]
          generalize jl ms i ⟨mn, msi, true⟩ i = M at *
          clear hA2 hB2' HR2 hl
          have hba : Below wr.heap.size wr (wr.alloc (.cells #[.int .i64 mn, .int .i64 msi, .bool true] 45)) := (Below.refl _ _).alloc (Nat.le_refl _) _
          have hO2 := hO.below hba
          have u1 := hO.c1
          have hsz : w2.heap.size + 1 ≤ (wr.alloc (.cells #[.int .i64 mn, .int .i64 msi, .bool true] 45)).heap.size := by simp; omega
          go_wp2_with (at_builtin; refine wpList_appOwM _ rfl (.tmp 92) (.tmp 98) 26 rfl i0 (.agg #[.int .i64 0, .int .i64 0, .bool false]) Tryd.underlying26 hi0 hz0 hz1 hz2 rfl (w2.heap.size + 1) v M rfl hO2.ow wr.heap.size 1 ⟨mn, msi, true⟩ rfl (by simp) (by simp) (by simp) (by omega) hsz ?_)
          intro v1 w' h1 h2
          obtain ⟨q0, c0, rfl, hq0, _⟩ := h1.rd
          simp only [List.length_append, List.length_singleton] at h1
          have s1 := (h2.cell (p := ⟨w2.heap.size, 1, none⟩) (Nat.lt_succ_self _)).trans hO2.c1
          have s2 := (h2.frozen (p := ⟨w2.heap.size, 1, none⟩) (Nat.lt_succ_self _)).trans hO2.fz
          have hO3 := hO2.app h2 h1
          have hk4 := ((hkr.below hba).low h2 (by omega)).far (x := w2.heap.size) (j := 1) (by omega) (by omega) (.slice q0 (M.length + 1) c0)
          have hB4 : Below b w (w'.setCell ⟨w2.heap.size, 1, none⟩ (.slice q0 (M.length + 1) c0)) := ((hBr.trans (hba.mono (by omega))).trans (h2.mono (by omega))).setCell (by show b ≤ w2.heap.size; omega) _
          obtain ⟨q5, c5, e5, hq5, hr5⟩ := hO3.ow.rd
          have hlen : (M ++ [(⟨mn, msi, true⟩ : Mb)]).length = M.length + 1 := by simp
          rw [hlen] at e5 hr5
          cases e5
          obtain ⟨v0, v1, vf, _⟩ := hO3
          clear a0 a1 b0 b1 f0 f1 hk2 hr2 hb hO hO2 u1
          have hkr' := hk4
          obtain ⟨a0, a1, b0, b1, f0, f1, lt5, br5⟩ := hkr'
          go_wp2_with fail
          exact bodyPost_ret (results_chain (p := 4) (u := 5) rfl _ _ (b + 1 + 1) _ _ rfl (hk4.put0 _ _) (hk4.put1 _ _)) rfl ⟨_, rfl, by
            rw [HE.out]
            refine ⟨q0, c0, by rw [hlen]; rfl, (fun a ha _ => by have := hq5 a ha; omega), ?_⟩
            rw [hlen]
            exact hr5.put _ _ (fun a ha _ => by have := hq5 a ha; omega), Gr.putB hB4 (show b ≤ b + 1 + 1 by omega) _ _⟩

end Go.Proofs.YtigojnpjpagfjaaDoor.M
