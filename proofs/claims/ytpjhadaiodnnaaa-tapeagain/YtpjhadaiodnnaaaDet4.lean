/-
  Own text: a region that draws its order, as Det2 has it; who leans on the condition is told by all that must have come up ahead, not by what is bound at once alone. No program is looked at.
-/
import Derived.Test.YtpjhadaiodnnaaaDet2
namespace Go.Proofs.Ytpjhadaiodnnaaa.M
open Go.RowKit

section
variable {P : Program} {ops : Array Oper} {Q : Exit → Act → World → Prop} {md : Region.Mode} {S0 : World → Prop}

/-- Number 'k' must have come up ahead of number 'j'. -/
def bef (md : Region.Mode) (ops : Array Oper) : Nat → Nat → Nat → Bool
  | 0, _, _ => false
  | f + 1, j, k => ((ops[j]?).map fun o => o.after.any fun e => Region.binds md e && (e.on == k || bef md ops f e.on k)).getD false

/-- Somebody of 'need' may come up behind number 'j'. -/
def leanT (md : Region.Mode) (ops : Array Oper) (need : List Nat) (j : Nat) : Bool := need.any fun k => j != k && !bef md ops ops.size j k

/-- What has come up has come up behind all that it is bound to. -/
def Closed (md : Region.Mode) (ops : Array Oper) (listed : Array Bool) : Prop := ∀ j o, listed.getD j false = true → ops[j]? = some o → ∀ e ∈ o.after, Region.binds md e = true → listed.getD e.on false = true

def closedB (md : Region.Mode) (ops : Array Oper) (listed : Array Bool) : Bool := (List.range ops.size).all fun j => !listed.getD j false || ((ops[j]?).map fun o => o.after.all fun e => !Region.binds md e || listed.getD e.on false).getD true

theorem closed_of {listed : Array Bool} (h : closedB md ops listed = true) : Closed md ops listed := fun j o hl ho e he hb => by
  unfold closedB at h
  rw [List.all_eq_true] at h
  have h1 := h j (List.mem_range.2 (Array.getElem?_eq_some_iff.1 ho).1)
  rw [hl, ho] at h1
  simp only [Bool.not_true, Bool.false_or, Option.map_some, Option.getD_some, Array.all_eq_true_iff_forall_mem, Bool.or_eq_true, Bool.not_eq_true'] at h1
  rcases h1 e he with h2 | h2
  · rw [h2] at hb; cases hb
  · exact h2

theorem Closed.step {listed : Array Bool} {j : Nat} (h : Closed md ops listed) (hj : j ∈ Region.ready md ops listed) : Closed md ops (listed.setIfInBounds j true) := fun k o hl ho e he hb => by
  obtain ⟨_, oj, hoj, hall⟩ := mem_ready.1 hj
  by_cases hjk : j = k
  · subst hjk
    rw [hoj] at ho
    cases ho
    exact getD_set_true (hall e he hb)
  · rw [getD_set_ne false hjk] at hl
    exact getD_set_true (h k o hl ho e he hb)

theorem not_both {listed : Array Bool} {i : Nat} (h : listed.getD i true = false) (k : listed.getD i false = true) : False := by
  rcases Nat.lt_or_ge i listed.size with h' | h'
  · simp [h'] at h k
    rw [h] at k
    cases k
  · simp [Array.getElem?_eq_none h'] at k

theorem bef_listed {listed : Array Bool} (hc : Closed md ops listed) : ∀ (f j k : Nat) (o : Oper), ops[j]? = some o → (∀ e ∈ o.after, Region.binds md e = true → listed.getD e.on false = true) → bef md ops f j k = true → listed.getD k false = true := by
  intro f
  induction f with
  | zero => intro j k o _ _ h; cases h
  | succ f ih =>
    intro j k o ho hall h
    unfold bef at h
    rw [ho] at h
    simp only [Option.map_some, Option.getD_some, Array.any_eq_true, Bool.and_eq_true, Bool.or_eq_true, beq_iff_eq] at h
    obtain ⟨x, hx, hb, h⟩ := h
    have he := Array.getElem_mem hx
    rcases h with h | h
    · rw [← h]; exact hall _ he hb
    · have hl := hall _ he hb
      cases ho2 : ops[(o.after[x]).on]? with
      | none =>
        cases f with
        | zero => cases h
        | succ f => unfold bef at h; rw [ho2] at h; cases h
      | some o2 => exact ih _ k o2 ho2 (fun e he2 hb2 => hc _ o2 hl ho2 e he2 hb2) h

theorem leanT_of {need : List Nat} {i j : Nat} {listed : Array Bool} (hn : need.contains i = true) (hc : Closed md ops listed) (hj : j ∈ Region.ready md ops listed) (hi : i ∈ Region.ready md ops listed) (hji : j ≠ i) : leanT md ops need j = true := by
  obtain ⟨_, oj, hoj, hall⟩ := mem_ready.1 hj
  unfold leanT
  rw [List.any_eq_true]
  refine ⟨i, by simpa using hn, ?_⟩
  simp only [Bool.and_eq_true, bne_iff_ne, Bool.not_eq_true']
  refine ⟨hji, ?_⟩
  cases hb : bef md ops ops.size j i with
  | false => rfl
  | true => exact (not_both (mem_ready.1 hi).1 (bef_listed hc _ _ _ oj hoj hall hb)).elim

theorem no_leanT {need : List Nat} {i : Nat} {R : Prop} (h : leanT md ops need i = false) (k : leanT md ops need i = true) : R := by
  rw [h] at k
  cases k

/-- Whatever order is drawn from here on, from every world that meets S: what is carried out leaves another such condition, which stays, and says at least S0 where somebody of 'need' may still come up. -/
def wpDyn (P : Program) (md : Region.Mode) (ops : Array Oper) (Q : Exit → Act → World → Prop) (need : List Nat) (S0 : World → Prop) : Nat → Array Bool → Act → (World → Prop) → Prop
  | 0, listed, a, S => Region.ready md ops listed = [] ∧ ∀ w, S w → Q .normal a w
  | fuel + 1, listed, a, S =>
    (Region.ready md ops listed = [] → ∀ w, S w → Q .normal a w) ∧
    ∀ i ∈ Region.ready md ops listed, ∀ w, S w → Go.wpOp P ops Q i (fun a' w' => ∃ S' : World → Prop, Stays S' ∧ (leanT md ops need i = true → ∀ x, S' x → S0 x) ∧ S' w' ∧ wpDyn P md ops Q need S0 fuel (listed.setIfInBounds i true) a' S') a w

variable {need : List Nat}

theorem wpAny_of_dyn : ∀ (fuel : Nat) (listed : Array Bool) (a : Act) (S : World → Prop) (w : World), S w → wpDyn P md ops Q need S0 fuel listed a S → wpAny P md ops Q fuel listed a w
  | 0, _, _, _, w, hS, h => ⟨h.1, h.2 w hS⟩
  | fuel + 1, _, _, _, w, hS, h => ⟨fun h0 => h.1 h0 w hS, fun i hi => wpOp_mono (fun a' w' h' => by
      obtain ⟨S', _, _, hS', h''⟩ := h'
      exact wpAny_of_dyn fuel _ a' S' w' hS' h'') (h.2 i hi w hS)⟩

theorem wpDyn_first {i : Nat} {oi : Oper} {v : Value} (hi : ops[i]? = some oi) (hsel : ∀ (j : Nat) (o : Oper) cs b, ops[j]? = some o → o.op ≠ .select cs b)
    (hQ : ∀ c a w, Q (.panic c) (a.put oi.dst v) w → Q (.panic c) a w) (hn : need.contains i = true) :
    ∀ (fuel : Nat) (listed : Array Bool) (a : Act) (S : World → Prop), Closed md ops listed → Stays S → (∀ x, S x → S0 x) →
      (∀ j oj, ops[j]? = some oj → j ≠ i → listed.getD j true = false → (∀ e ∈ oj.after, Region.binds md e = true → e.on ≠ i) → oi.apart ops oj = true) →
      i ∈ Region.ready md ops listed → Gives P ops S0 oi v a →
      wpDyn P md ops Q need S0 fuel (listed.setIfInBounds i true) (a.put oi.dst v) S → wpDyn P md ops Q need S0 (fuel + 1) listed a S := by
  intro fuel
  induction fuel with
  | zero =>
    intro listed a S _ hst h0 _ hr hy H
    refine ⟨fun h => (by rw [h] at hr; cases hr), fun j hj w hS => ?_⟩
    by_cases hji : j = i
    · subst hji
      exact hy.wpOp hi (h0 w hS) fun w' hb => ⟨S, hst, fun _ => h0, hst w w' hS hb, H⟩
    · have := ready_mono hj hji
      rw [H.1] at this
      cases this
  | succ fuel ih =>
    intro listed a S hcl hst h0 hfree hr hy H
    refine ⟨fun h => (by rw [h] at hr; cases hr), fun j hj w hS => ?_⟩
    by_cases hji : j = i
    · subst hji
      exact hy.wpOp hi (h0 w hS) fun w' hb => ⟨S, hst, fun _ => h0, hst w w' hS hb, H⟩
    · have h1 := H.2 j (ready_mono hj hji) w hS
      have hlean := leanT_of hn hcl hj hr hji
      obtain ⟨hjun, oj, hoj, hall⟩ := mem_ready.1 hj
      have h00 := (mem_ready.1 hr).1
      have hnot : ∀ e ∈ oj.after, Region.binds md e = true → e.on ≠ i := fun e he hb heq => by
        have h1 := hall e he hb
        rw [heq] at h1
        exact not_both h00 h1
      have h2 := Gives.apart hoj (hfree j oj hoj hji hjun hnot) (fun cs b => hsel i oi cs b hi) (fun cs b => hsel j oj cs b hoj) hQ hy h1
      have hfree' : ∀ k ok, ops[k]? = some ok → k ≠ i → (listed.setIfInBounds j true).getD k true = false →
          (∀ e ∈ ok.after, Region.binds md e = true → e.on ≠ i) → oi.apart ops ok = true := fun k ok hk hki hun hno => by
        refine hfree k ok hk hki ?_ hno
        by_cases hjk : j = k
        · subst hjk; exact hjun
        · rw [getD_set_ne true hjk] at hun; exact hun
      refine wpOp_mono (fun a' w' h3 => ?_) h2
      obtain ⟨hg, S', hst', h0', hS', h4⟩ := h3
      refine ⟨S', hst', h0', hS', ih (listed.setIfInBounds j true) a' S' (hcl.step hj) hst' (h0' hlean) hfree' (ready_mono hr (Ne.symm hji)) hg ?_⟩
      rw [Array.setIfInBounds_comm _ _ hji]
      exact h4

/-- Take number 'i' first: one of 'need'. -/
theorem wpDyn_take {i : Nat} {oi : Oper} (v : Value) {fuel : Nat} {listed : Array Bool} {a : Act} {S : World → Prop} (hst : Stays S) (h0 : ∀ x, S x → S0 x) (hi : ops[i]? = some oi)
    (hs : Region.noSelect ops = true) (hf : Region.free md ops listed i = true) (hr : (Region.ready md ops listed).contains i = true) (hn : need.contains i = true) (hcl : closedB md ops listed = true)
    (hQ : ∀ c a w, Q (.panic c) (a.put oi.dst v) w → Q (.panic c) a w) (hy : Gives P ops S0 oi v a)
    (h : wpDyn P md ops Q need S0 fuel (listed.setIfInBounds i true) (a.put oi.dst v) S) : wpDyn P md ops Q need S0 (fuel + 1) listed a S :=
  wpDyn_first hi (Region.noSelect_spec hs) hQ hn fuel listed a S (closed_of hcl) hst h0 (Region.free_spec hi hf) (by simpa using hr) hy h

theorem wpDyn_done {listed : Array Bool} {a : Act} {S : World → Prop} (hr : Region.ready md ops listed = []) (h : ∀ w, S w → Q .normal a w) :
    ∀ fuel, wpDyn P md ops Q need S0 fuel listed a S
  | 0 => ⟨hr, h⟩
  | _ + 1 => ⟨fun _ => h, by rw [hr]; simp⟩

/-- Each of those that may come up comes up next. -/
def AllDyn (P : Program) (md : Region.Mode) (ops : Array Oper) (Q : Exit → Act → World → Prop) (need : List Nat) (S0 : World → Prop) (fuel : Nat) (listed : Array Bool) (a : Act) (S : World → Prop) (rs : List Nat) : Prop :=
  ∀ i ∈ rs, ∀ w, S w → Go.wpOp P ops Q i (fun a' w' => ∃ S' : World → Prop, Stays S' ∧ (leanT md ops need i = true → ∀ x, S' x → S0 x) ∧ S' w' ∧ wpDyn P md ops Q need S0 fuel (listed.setIfInBounds i true) a' S') a w

theorem AllDyn.nil {fuel : Nat} {listed : Array Bool} {a : Act} {S : World → Prop} : AllDyn P md ops Q need S0 fuel listed a S [] := fun _ h => by cases h

theorem AllDyn.cons {fuel : Nat} {listed : Array Bool} {a : Act} {S : World → Prop} {i : Nat} {o : Oper} {rs : List Nat} (ho : ops[i]? = some o)
    (h : ∀ w, S w → ∀ K' : Act → World → Prop, Shut (∀ (S' : World → Prop) a w, Stays S' → (leanT md ops need i = true → ∀ x, S' x → S0 x) → S' w → wpDyn P md ops Q need S0 fuel (listed.setIfInBounds i true) a S' → K' a w) → if Region.wanted o (yielded ops a.tmps) = true then Oper.wp P o a w K' Q else K' (a.put o.dst undef) w)
    (hs : AllDyn P md ops Q need S0 fuel listed a S rs) : AllDyn P md ops Q need S0 fuel listed a S (i :: rs) := fun j hj w hS => by
  rcases List.mem_cons.1 hj with rfl | hj
  · exact wpOp_step ho (fun K' hK => h w hS K' (fun S' a w h1 h2 h3 h4 => hK a w ⟨S', h1, h2, h3, h4⟩))
  · exact hs j hj w hS

theorem wpDyn_ready {rs : List Nat} {fuel : Nat} {listed : Array Bool} {a : Act} {S : World → Prop} (hr : Region.ready md ops listed = rs) (hne : rs ≠ [])
    (h : AllDyn P md ops Q need S0 fuel listed a S rs) : wpDyn P md ops Q need S0 (fuel + 1) listed a S :=
  ⟨fun h0 => absurd (hr ▸ h0) hne, hr ▸ h⟩

/-- The beginning. -/
theorem wp_region_dyn (need : List Nat) (S0 S : World → Prop) {id : Nat} {a : Act} {w : World} (hm : P.follows .mixedOrders = true) (hS : S w.drew)
    (h : wpDyn P .any ops Q need S0 ops.size (Array.replicate ops.size false) a S) : (Code.region id ops true).wp P Q a w :=
  wp_region_any hm (wpAny_of_dyn _ _ _ S _ hS h)

end

end Go.Proofs.Ytpjhadaiodnnaaa.M
