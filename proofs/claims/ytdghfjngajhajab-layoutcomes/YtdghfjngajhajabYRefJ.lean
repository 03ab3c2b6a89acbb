/-
  Own text: the contract of the reference's Join.
-/
import Derived.Test.YtdghfjngajhajabYRefR
namespace Go.Proofs.Ytdghfjngajhajab.M
open Go.ChangeShapes Go.WideShapes Go.ChangeAt Go.RowKit

/-- How many there are ahead of the first member of a site behind. -/
def behN (s : Int) : List Mb → Nat
  | [] => 0
  | m :: l => if s < m.s then 0 else behN s l + 1

theorem behN_ix (s : Int) : ∀ (l : List Mb) (k : Nat), (ixM (fun m => decide (s < m.s)) k l = -1 ∧ behN s l = l.length) ∨ (ixM (fun m => decide (s < m.s)) k l = ((k + behN s l : Nat) : Int) ∧ behN s l < l.length)
  | [], _ => Or.inl ⟨rfl, rfl⟩
  | m :: l, k => by
    unfold ixM behN
    by_cases h : s < m.s
    · rw [if_pos (decide_eq_true h), if_pos h]
      exact Or.inr ⟨by simp, by simp⟩
    · rw [if_neg (by simpa using h), if_neg h]
      rcases behN_ix s l (k + 1) with ⟨h1, h2⟩ | ⟨h1, h2⟩
      · exact Or.inl ⟨h1, by rw [h2]; rfl⟩
      · exact Or.inr ⟨by rw [h1]; omega, by rw [List.length_cons]; omega⟩

theorem behM_N (ms : List Mb) (s : Int) : behM ms s = (behN s ms : Int) := by
  unfold behM
  rcases behN_ix s ms 0 with ⟨h1, h2⟩ | ⟨h1, h2⟩
  · rw [if_pos h1, h2]
  · rw [h1, if_neg (by omega)]; omega

theorem behN_le (s : Int) : ∀ (l : List Mb), behN s l ≤ l.length
  | [] => Nat.le_refl _
  | m :: l => by
    unfold behN
    have := behN_le s l
    split
    · exact Nat.zero_le _
    · rw [List.length_cons]; omega

theorem behN_lt (s : Int) : ∀ (l : List Mb) (k : Nat), k < behN s l → ¬ s < (l.getD k default).s
  | [], k, h => absurd h (Nat.not_lt_zero _)
  | m :: l, k, h => by
    unfold behN at h
    by_cases hm : s < m.s
    · rw [if_pos hm] at h
      exact absurd h (Nat.not_lt_zero _)
    · rw [if_neg hm] at h
      cases k with
      | zero => exact hm
      | succ k => exact behN_lt s l k (by omega)

theorem behN_at (s : Int) : ∀ (l : List Mb), behN s l < l.length → s < (l.getD (behN s l) default).s
  | [], h => absurd h (Nat.not_lt_zero _)
  | m :: l, h => by
    unfold behN at h ⊢
    by_cases hm : s < m.s
    · rw [if_pos hm]
      exact hm
    · rw [if_neg hm] at h ⊢
      exact behN_at s l (by rw [List.length_cons] at h; omega)

/-- What is written behind k members. -/
def jl (ms : List Mb) (i : Nat) (m : Mb) (k : Nat) : List Mb := if i < k then insM (ms.take k) i m else ms.take k

theorem jl_lt {ms : List Mb} {i k : Nat} {m : Mb} (h : k < ms.length) (hk : k < i) : jl ms i m (k + 1) = jl ms i m k ++ [ms.getD k default] := by
  unfold jl
  rw [if_neg (by omega), if_neg (by omega)]
  exact take_snoc_mb h

theorem jl_at {ms : List Mb} {k : Nat} {m : Mb} (h : k < ms.length) : jl ms k m (k + 1) = (jl ms k m k ++ [m]) ++ [ms.getD k default] := by
  unfold jl
  rw [if_pos (by omega), if_neg (by omega), take_snoc_mb h]
  unfold insM
  have e : (ms.take k).length = k := by rw [List.length_take]; omega
  rw [List.take_append_of_le_length (by omega), List.take_of_length_le (by omega), List.drop_append_of_le_length (by omega), List.drop_of_length_le (by omega), List.append_assoc]
  rfl

theorem jl_gt {ms : List Mb} {i k : Nat} {m : Mb} (h : k < ms.length) (hk : i < k) : jl ms i m (k + 1) = jl ms i m k ++ [ms.getD k default] := by
  unfold jl
  rw [if_pos (by omega), if_pos hk, take_snoc_mb h]
  unfold insM
  have e : (ms.take k).length = k := by rw [List.length_take]; omega
  rw [List.take_append_of_le_length (by omega), List.drop_append_of_le_length (by omega), List.append_assoc]
  rfl

theorem jl_end {ms : List Mb} {i n : Nat} {m : Mb} (h : ms.length = n) (hi : i < n) : insM ms i m = jl ms i m n := by
  unfold jl
  rw [if_pos hi, List.take_of_length_le (by omega)]

theorem jl_end2 {ms : List Mb} {n : Nat} {m : Mb} (h : ms.length = n) : insM ms n m = jl ms n m n ++ [m] := by
  unfold jl insM
  rw [if_neg (by omega), List.take_of_length_le (by omega), List.drop_of_length_le (by omega)]

theorem jl_len (ms : List Mb) (i k : Nat) (m : Mb) : (jl ms i m k).length ≤ k + 1 := by
  unfold jl
  split
  · rw [insM_len, List.length_take]; omega
  · rw [List.length_take]; omega

theorem new0 (W : World) (a s : Int) (f : Bool) : (W.alloc (.cells #[.int .i64 a, .int .i64 s, .bool f] 48)).cell? ⟨W.heap.size, 0, none⟩ = some (.int .i64 a) := by simp
theorem new1 (W : World) (a s : Int) (f : Bool) : (W.alloc (.cells #[.int .i64 a, .int .i64 s, .bool f] 48)).cell? ⟨W.heap.size, 1, none⟩ = some (.int .i64 s) := by simp
theorem new2 (W : World) (a s : Int) (f : Bool) : (W.alloc (.cells #[.int .i64 a, .int .i64 s, .bool f] 48)).cell? ⟨W.heap.size, 2, none⟩ = some (.bool f) := by simp

/-- A block is as it was. -/
def KeptB (y : Nat) (w w' : World) : Prop := w'.heap[y]? = w.heap[y]?

theorem rows2 (w : World) (o1 o2 : Obj) : ((w.alloc o1).alloc o2).heap[w.heap.size]? = some o1 := by
  have hb : Below (w.heap.size + 1) (w.alloc o1) ((w.alloc o1).alloc o2) := (Below.refl _ _).alloc (by simp) _
  rw [hb.block w.heap.size (Nat.lt_succ_self _)]
  exact heap_alloc_new _ _

theorem wpList_appOwM2 {P : Program} (w : World) {ops : Array Oper} {rest : List Oper} {o : Oper} {a : Act} {Q : Exit → Act → World → Prop} (hgd : o.guard = none) (s x : Operand) (t : TypeId)
    (hop : o.op = .call { callee := .builtin .append, args := #[s, x], argTypes := #[t, t] })
    (i : TypeInfo) (z : Value) (ht : P.underlying t = some (.slice 48)) (hi : P.info? 48 = some i) (hz : i.zero = some z) (hsize : i.size = 3) (hby : i.bytes = 24) (hzs : z.cells.size = 3)
    (B : Nat) (v : Value) (M : List Mb) (hs : a.eval s = v) (ho : OwM w B v M) (g d : Nat) (m : Mb) (hx : a.eval x = .slice (some ⟨g, 0, none⟩) 1 d)
    (c0 : w.cell? ⟨g, 0, none⟩ = some (.int .i64 m.n)) (c1 : w.cell? ⟨g, 1, none⟩ = some (.int .i64 m.s)) (c2 : w.cell? ⟨g, 2, none⟩ = some (.bool m.f)) (hM : M.length ≤ 1099511627776) (hB : B ≤ w.heap.size)
    (y : Nat) (hy : y < w.heap.size) (hv : ∀ a n c, v = .slice (some a) n c → a.block ≠ y)
    (h : ∀ v' w', OwM w' B v' (M ++ [m]) → Below B w w' → KeptB y w w' → wpList P ops Q rest (a.put o.dst v') w') : wpList P ops Q (o :: rest) a w := by
  refine wpList_append_own w hgd s x t hop B 48 i z 3 24 ht hi hz hsize hby hzs (by decide) v M.length (cellsM M M.length) hs ho ⟨g, 0, none⟩ 1 d m.cs hx rfl ?_ (cs_one m) (by unfold maxLen; omega) (by omega) hB ?_
  · intro j u hj
    rw [Addr.add_lit, Nat.zero_add]
    match j, hj with
    | 0, hj => cases hj; exact c0
    | 1, hj => cases hj; exact c1
    | 2, hj => cases hj; exact c2
  · intro v' w' h1 h2 _
    refine h v' w' ?_ ?_ ?_
    · unfold OwM
      rw [cellsM_snoc, List.length_append]
      exact h1
    · refine (Below.refl B w).grown h2 hB fun r hr => ?_
      rcases ho.2 with ⟨rfl, _⟩ | ⟨g', cap, cur, rfl, hg, _⟩
      · cases hr
      · cases hr; exact hg
    · unfold KeptB
      refine h2.block y hy fun e => ?_
      rcases ho.2 with ⟨rfl, _⟩ | ⟨g', cap, cur, rfl, hg, _⟩
      · cases e
      · cases e; exact hv _ _ _ rfl rfl

end Go.Proofs.Ytdghfjngajhajab.M
