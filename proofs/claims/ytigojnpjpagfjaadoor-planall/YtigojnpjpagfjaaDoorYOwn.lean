/-
  Own text: members appended one by one to a slice of the call's own.
-/
import Derived.Test.YtigojnpjpagfjaaDoorYAround
namespace Go.Proofs.YtigojnpjpagfjaaDoor.M
open Go.ChangeShapes Go.WideShapes Go.ChangeAt Go.RowKit

/-- A slice of the call's own (from block B on) that holds these members. -/
def OwM (w : World) (B : Nat) (v : Value) (M : List Mb) : Prop := w.ownsRow B 45 3 v M.length (cellsM M M.length)

theorem OwM.nil (w : World) (B : Nat) : OwM w B (.slice none 0 0) [] := ⟨by simp [cellsM], Or.inl ⟨rfl, rfl⟩⟩

theorem OwM.below {w w' : World} {B : Nat} {v : Value} {M : List Mb} (h : OwM w B v M) (hb : Below w.heap.size w w') : OwM w' B v M := owns_below h hb

theorem OwM.rd {w : World} {B : Nat} {v : Value} {M : List Mb} (h : OwM w B v M) : ∃ q c, v = .slice q M.length c ∧ (∀ a, q = some a → B ≤ a.block) ∧ RdM w q M.length c M := by
  cases M with
  | nil =>
    rcases h.2 with ⟨rfl, _⟩ | ⟨g, cap, cur, rfl, hg, _⟩
    · exact ⟨none, 0, rfl, (fun _ e => by cases e), rfl, Nat.le_refl _, fun _ => rfl, fun h => absurd h (Nat.lt_irrefl _)⟩
    · exact ⟨_, _, rfl, (fun _ e => by cases e; exact hg), rfl, Nat.zero_le _, (fun e => by cases e), fun h => absurd h (Nat.lt_irrefl _)⟩
  | cons m l =>
    obtain ⟨g, cap, rfl, hg, hr⟩ := Row.of_owns h rfl (by simp)
    exact ⟨_, _, rfl, fun _ e => by cases e; exact hg, hr.rd⟩

theorem cellsM_snoc (M : List Mb) (m : Mb) : cellsM (M ++ [m]) (M ++ [m]).length = cellsM M M.length ++ m.cs := by
  have := cellsM_app M m M.length rfl
  unfold insM at this
  rw [List.take_of_length_le (Nat.le_refl _), List.drop_of_length_le (Nat.le_refl _)] at this
  rw [List.length_append]
  exact this

theorem wpList_appOwM {P : Program} (w : World) {ops : Array Oper} {rest : List Oper} {o : Oper} {a : Act} {Q : Exit → Act → World → Prop} (hgd : o.guard = none) (s x : Operand) (t : TypeId)
    (hop : o.op = .call { callee := .builtin .append, args := #[s, x], argTypes := #[t, t] })
    (i : TypeInfo) (z : Value) (ht : P.underlying t = some (.slice 45)) (hi : P.info? 45 = some i) (hz : i.zero = some z) (hsize : i.size = 3) (hby : i.bytes = 24) (hzs : z.cells.size = 3)
    (B : Nat) (v : Value) (M : List Mb) (hs : a.eval s = v) (ho : OwM w B v M) (g d : Nat) (m : Mb) (hx : a.eval x = .slice (some ⟨g, 0, none⟩) 1 d)
    (c0 : w.cell? ⟨g, 0, none⟩ = some (.int .i64 m.n)) (c1 : w.cell? ⟨g, 1, none⟩ = some (.int .i64 m.s)) (c2 : w.cell? ⟨g, 2, none⟩ = some (.bool m.f)) (hM : M.length ≤ 1099511627776) (hB : B ≤ w.heap.size)
    (h : ∀ v' w', OwM w' B v' (M ++ [m]) → Below B w w' → wpList P ops Q rest (a.put o.dst v') w') : wpList P ops Q (o :: rest) a w := by
  refine wpList_append_own w hgd s x t hop B 45 i z 3 24 ht hi hz hsize hby hzs (by decide) v M.length (cellsM M M.length) hs ho ⟨g, 0, none⟩ 1 d m.cs hx rfl ?_ (cs_one m) (by unfold maxLen; omega) (by omega) hB ?_
  · intro j u hj
    rw [Addr.add_lit, Nat.zero_add]
    match j, hj with
    | 0, hj => cases hj; exact c0
    | 1, hj => cases hj; exact c1
    | 2, hj => cases hj; exact c2
  · intro v' w' h1 h2 _
    refine h v' w' ?_ ?_
    · unfold OwM
      rw [cellsM_snoc, List.length_append]
      exact h1
    · refine (Below.refl B w).grown h2 hB fun r hr => ?_
      rcases ho.2 with ⟨rfl, _⟩ | ⟨g', cap, cur, rfl, hg, _⟩
      · cases hr
      · cases hr; exact hg

/-- Without those that are fresh, from the first on. -/
def strip : List Mb → List Mb
  | [] => []
  | m :: l => if m.f = true then strip l else m :: l

theorem strip_ix : ∀ (l : List Mb) (k : Nat), (ixM (fun m => !m.f) k l = -1 ∧ strip l = []) ∨ (∃ i : Nat, ixM (fun m => !m.f) k l = ((k + i : Nat) : Int) ∧ i < l.length ∧ strip l = l.drop i)
  | [], _ => Or.inl ⟨rfl, rfl⟩
  | m :: l, k => by
    unfold ixM strip
    cases h : m.f with
    | false => exact Or.inr ⟨0, by simp, by simp, rfl⟩
    | true =>
      simp only [Bool.not_true, Bool.false_eq_true, if_false, if_true]
      rcases strip_ix l (k + 1) with ⟨h1, h2⟩ | ⟨i, h1, h2, h3⟩
      · exact Or.inl ⟨h1, h2⟩
      · exact Or.inr ⟨i + 1, by rw [h1]; omega, by simpa using h2, by rw [h3]; rfl⟩

theorem strip_len (l : List Mb) : (strip l).length ≤ l.length := by
  induction l with
  | nil => exact Nat.le_refl _
  | cons m l ih =>
    unfold strip
    split
    · simp only [List.length_cons]; omega
    · exact Nat.le_refl _

/-- A chain without a node, or a site, as the reference has it. -/
def rcutR (kp : Mb → Bool) (e : Int) (ms : List Mb) : CR :=
  if chk e ms = false then .error 80 else if e = 1099511627776 then .error 5 else
  if (strip (ms.filter kp)).length = ms.length then .error 81 else if (strip (ms.filter kp)).length = 0 then .error 83 else .ok (e + 1, strip (ms.filter kp))

theorem filter_all {kp : Mb → Bool} {ms : List Mb} (h : (ms.filter kp).length = ms.length) : ms.filter kp = ms := by
  have := List.filter_sublist (l := ms) (p := kp)
  exact this.eq_of_length h

theorem cut_eq (pr kp : Mb → Bool) (e : Int) (ms : List Mb) (h : ∀ m, isMb m = true → kp m = !pr m) : rcutR kp e ms = cutR pr e ms := by
  unfold rcutR cutR
  cases hk : chk e ms with
  | false => rfl
  | true =>
    obtain ⟨he1, he2, hn0, hn6⟩ := chk_parts hk
    have hg : goC 0 0 ms = true ∧ headOk ms = true := by
      unfold chk at hk
      simp only [Bool.and_eq_true] at hk
      exact ⟨hk.2.2.2, hk.2.2.1⟩
    have hf : ms.filter kp = ms.filter (fun m => !pr m) := List.filter_congr (fun m hm => h m (goC_all hg.1 m hm))
    rw [hf]
    simp only [Bool.true_eq_false, if_false]
    by_cases h40 : e = 1099511627776
    · rw [if_pos h40, if_pos (show (1099511627776 : Int) ≤ e by omega)]
    · rw [if_neg h40, if_neg (show ¬ (1099511627776 : Int) ≤ e by omega)]
      generalize hrs : ms.filter (fun m => !pr m) = rest
      have hle : rest.length ≤ ms.length := by rw [← hrs]; exact List.length_filter_le _ _
      have hsl := strip_len rest
      by_cases hq : rest.length = ms.length
      · have hr : rest = ms := by rw [← hrs] at hq ⊢; exact filter_all hq
        rw [if_pos hq]
        have hst : strip rest = ms := by
          rw [hr]
          match ms, hn0, hg.2 with
          | m :: l, _, h2 =>
            unfold strip
            have : m.f = false := by simpa [headOk] using h2
            rw [this]
            rfl
        rw [hst, if_pos rfl]
      · rw [if_neg hq, if_neg (show ¬ (strip rest).length = ms.length by omega)]
        rcases strip_ix rest 0 with ⟨h1, h2⟩ | ⟨i, h1, h2, h3⟩
        · rw [h1, h2]; rfl
        · rw [h1, h3, if_neg (show ¬ (rest.drop i).length = 0 by rw [List.length_drop]; omega), if_neg (show ¬ (((0 + i : Nat) : Int) < 0) by omega), Int.toNat_natCast, Nat.zero_add]

theorem has_plc {e : Int} {ms : List Mb} (hk : chk e ms = true) (node : Int) : hasN (thN (fun _ => true) 0 ms) node = decide (0 ≤ plc e ms node) := by
  have hg : goC 0 0 ms = true := by
    unfold chk at hk
    simp only [Bool.and_eq_true] at hk
    exact hk.2.2.2
  have hx : plc e ms node = ixM (fun m => m.n == node) 0 ms := by unfold plc; rw [if_pos hk]
  rw [hx]
  have hany : ∀ (l : List Mb) (k : Nat), decide (0 ≤ ixM (fun m => m.n == node) k l) = l.any (fun m => m.n == node) := ixM_any _
  rw [hany]
  by_cases hr : 0 ≤ node ∧ node < 6
  · rw [hasN_thN node hr.1 hr.2 ms 0 (goC_all hg)]
    simp [hasN]
  · have h1 : ms.any (fun m => m.n == node) = false := by
      rw [List.any_eq_false]
      intro m hm
      have := (isMb_iff m).1 (goC_all hg m hm)
      simp
      omega
    rw [h1]
    unfold hasN
    by_cases h64 : 0 ≤ node ∧ node < 64
    · rw [decide_eq_true h64, Bool.true_and]
      have hs := thN_small ms 0 0 hg (by decide)
      refine Nat.testBit_lt_two_pow (Nat.lt_of_lt_of_le hs ?_)
      exact Nat.pow_le_pow_right (n := 2) (i := 6) (by decide) (by omega)
    · rw [decide_eq_false h64, Bool.false_and]

end Go.Proofs.YtigojnpjpagfjaaDoor.M
