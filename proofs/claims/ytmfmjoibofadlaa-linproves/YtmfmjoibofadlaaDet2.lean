/-
  Own text: a region that draws its order: an operation, a call too, that gives one value in every world that meets a condition, and leaves all that stood as it was, may be taken first. No program is looked at.
-/
import Derived.OrdersHeld
import Derived.Deep.RegionHeld
import Derived.WalkKit
namespace Go.Proofs.Ytmfmjoibofadlaa.M
open Go.RowKit

/-- A condition on worlds that stays when only new memory is made. -/
def Stays (S : World → Prop) : Prop := ∀ w w', S w → Below w.heap.size w w' → S w'

theorem Stays.and {S T : World → Prop} (h : Stays S) (k : Stays T) : Stays fun w => S w ∧ T w := fun w w' hS hb => ⟨h w w' hS.1 hb, k w w' hS.2 hb⟩

section
variable {P : Program} {ops : Array Oper} {Q : Exit → Act → World → Prop} {md : Region.Mode} {S0 : World → Prop}

/-- Put into its slot, both values come to the same frame. -/
def Alike (dst : Option Tmp) (n : Nat) (u v : Value) : Prop := ∀ b : Act, b.tmps.size = n → b.put dst u = b.put dst v

theorem Alike.of_put {a : Act} {dst : Option Tmp} {u v : Value} (h : a.put dst u = a.put dst v) : Alike dst a.tmps.size u v := by
  intro b hb
  cases dst with
  | none => rfl
  | some d =>
    by_cases hd : d < a.tmps.size
    · have h1 : (a.put (some d) u).tmps[d]? = (a.put (some d) v).tmps[d]? := by rw [h]
      simp only [Act.put, Array.getElem?_setIfInBounds_self, hd, if_true] at h1
      rw [Option.some.inj h1]
    · have h2 : ∀ x, b.tmps.setIfInBounds d x = b.tmps := fun x => by
        apply Array.ext_getElem?
        intro i
        by_cases hdi : d = i
        · rw [← hdi, Array.getElem?_eq_none (by rw [Array.size_setIfInBounds, hb]; exact Nat.le_of_not_lt hd), Array.getElem?_eq_none (by rw [hb]; exact Nat.le_of_not_lt hd)]
        · rw [Array.getElem?_setIfInBounds_ne hdi]
      show ({ b with tmps := _ } : Act) = { b with tmps := _ }
      rw [h2, h2]

theorem put_size (a : Act) (dst : Option Tmp) (v : Value) : (a.put dst v).tmps.size = a.tmps.size := by
  cases dst with
  | none => rfl
  | some d => simp [Act.put]

/-- What an operation comes to: one value, and nothing that stood has turned. -/
def GivesR (P : Program) (dst : Option Tmp) (n : Nat) (v : Value) (w : World) : Result Next → Prop
  | .ok (.value u) w' => Alike dst n u v ∧ Below w.heap.size w w'
  | .ok .skip w' => Alike dst n undef v ∧ Below w.heap.size w w'
  | .ok (.row row args) w' => Rows P row args w' fun u w'' => Alike dst n u v ∧ Below w.heap.size w w''
  | .ok (.enter f args) w' => Calls P f args w' fun e w'' => ∃ u, e = .returned u ∧ Alike dst n u v ∧ Below w.heap.size w w''
  | _ => False

/-- In every world that meets the condition operation 'o' gives 'v'. -/
def Gives (P : Program) (ops : Array Oper) (S0 : World → Prop) (o : Oper) (v : Value) (a : Act) : Prop :=
  (Region.wanted o (yielded ops a.tmps) = true ∧ ∀ w, S0 w → GivesR P o.dst a.tmps.size v w ((execOp a.eval o).run P w)) ∨
  (Region.wanted o (yielded ops a.tmps) = false ∧ v = undef)

/-- As the walk shows it. -/
theorem Gives.of_wp {o : Oper} {v : Value} {a : Act} (hw : Region.wanted o (yielded ops a.tmps) = true)
    (h : ∀ w, S0 w → ∀ K : Act → World → Prop, Shut (∀ a' w', a' = a.put o.dst v → Below w.heap.size w w' → K a' w') → Oper.wp P o a w K (fun _ _ _ => False)) : Gives P ops S0 o v a := by
  refine Or.inl ⟨hw, fun w hS => ?_⟩
  have hk := h w hS (fun a' w' => a' = a.put o.dst v ∧ Below w.heap.size w w') (fun a' w' h1 h2 => ⟨h1, h2⟩)
  unfold Oper.wp at hk
  generalize (execOp a.eval o).run P w = r at hk
  cases r with
  | ok n w' =>
    cases n <;> simp only [Oper.upon] at hk
    case value u => exact ⟨Alike.of_put hk.1, hk.2⟩
    case enter f args =>
      refine Calls.mono hk fun e w'' he => ?_
      cases e with
      | returned u => exact ⟨u, rfl, Alike.of_put he.1, he.2⟩
      | panicked c => exact he.elim
      | outgrown => obtain ⟨_, _, h⟩ := he; exact h.elim
    case skip => exact ⟨Alike.of_put hk.1, hk.2⟩
    case defer d =>
      have h1 := congrArg (fun b : Act => b.defers.length) hk.1
      have h2 : ∀ (b : Act) (x : Value), (b.put o.dst x).defers = b.defers := fun b x => by cases o.dst <;> rfl
      simp only [h2, List.length_cons] at h1
      omega
    case row row args => exact Rows.mono hk fun u w'' he => ⟨Alike.of_put he.1, he.2⟩
  | halt x w' => cases x <;> simp only [Oper.upon] at hk

/-- What gives a value in every world does so as the walk sees it. -/
theorem Gives.wpOp {i : Nat} {o : Oper} {v : Value} {a : Act} (hi : ops[i]? = some o) (hy : Gives P ops S0 o v a)
    {K : Act → World → Prop} {w : World} (hS : S0 w) (h : ∀ w', Below w.heap.size w w' → K (a.put o.dst v) w') : Go.wpOp P ops Q i K a w := by
  unfold Go.wpOp
  simp only [hi]
  rcases hy with ⟨hw, hv⟩ | ⟨hw, rfl⟩
  · simp only [hw, if_true]
    refine Or.inl ?_
    have hr := hv w hS
    unfold Oper.wp
    generalize (execOp a.eval o).run P w = r at hr
    cases r with
    | ok n w' =>
      cases n <;> simp only [GivesR] at hr <;> simp only [Oper.upon]
      case value u => rw [hr.1 a rfl]; exact h _ hr.2
      case skip => rw [hr.1 a rfl]; exact h _ hr.2
      case row row args => exact Rows.mono hr fun u w'' he => by rw [he.1 a rfl]; exact h _ he.2
      case enter f args =>
        refine Calls.mono hr fun e w'' he => ?_
        obtain ⟨u, rfl, h1, h2⟩ := he
        show K (a.put o.dst u) w''
        rw [h1 a rfl]
        exact h _ h2
    | halt x w' => exact hr.elim
  · simp only [hw, Bool.false_eq_true, if_false]
    exact h _ (Below.refl _ _)

theorem Gives.of_same {o : Oper} {v : Value} {a a' : Act} (hy : Gives P ops S0 o v a) (he : execOp a'.eval o = execOp a.eval o)
    (hw : Region.wanted o (yielded ops a'.tmps) = Region.wanted o (yielded ops a.tmps)) (hs : a'.tmps.size = a.tmps.size) : Gives P ops S0 o v a' := by
  unfold Gives at *
  rw [he, hw, hs]
  exact hy

/-- An operation that is apart from the one that gives goes the same way ahead of it and behind it. -/
theorem Gives.apart {j : Nat} {oi oj : Oper} {v : Value} (hj : ops[j]? = some oj) (hap : oi.apart ops oj = true)
    (hsi : ∀ cs b, oi.op ≠ .select cs b) (hsj : ∀ cs b, oj.op ≠ .select cs b)
    (hQ : ∀ c a w, Q (.panic c) (a.put oi.dst v) w → Q (.panic c) a w) {K : Act → World → Prop} {a : Act} {w : World}
    (hy : Gives P ops S0 oi v a) (h : Go.wpOp P ops Q j K (a.put oi.dst v) w) :
    Go.wpOp P ops Q j (fun a' w' => Gives P ops S0 oi v a' ∧ K (a'.put oi.dst v) w') a w := by
  obtain ⟨h1, h2, h3⟩ := Oper.apart_spec hap
  have keep : ∀ (a : Act), Gives P ops S0 oi v a → ∀ u, Gives P ops S0 oi v (a.put oj.dst u) := fun a hy u =>
    hy.of_same (execOp_put oi hsi a oj.dst u h3) (wanted_put oi a oj.dst u h3) (put_size _ _ _)
  have keepD : ∀ d, Gives P ops S0 oi v { a with defers := d :: a.defers } := fun d => hy.of_same rfl rfl rfl
  unfold Go.wpOp at *
  simp only [hj] at *
  rw [wanted_put oj a oi.dst v h1] at h
  by_cases hw : Region.wanted oj (yielded ops a.tmps) = true
  · rw [if_pos hw] at h ⊢
    rcases h with h | ⟨hasks, hlets⟩
    case inr => exact .inr ⟨by unfold Oper.asks at *; rw [execOp_put oj hsj a oi.dst v h1] at hasks; exact hasks, hlets⟩
    refine .inl ?_
    unfold Oper.wp at *
    rw [execOp_put oj hsj a oi.dst v h1] at h
    generalize (execOp a.eval oj).run P w = r at *
    have swap : ∀ u, (a.put oi.dst v).put oj.dst u = (a.put oj.dst u).put oi.dst v := fun u => Act.put_comm a v u h2
    cases r with
    | ok n w' =>
      cases n <;> simp only [Oper.upon] at h ⊢
      case value u => rw [swap u] at h; exact ⟨keep a hy u, h⟩
      case skip => rw [swap undef] at h; exact ⟨keep a hy _, h⟩
      case defer d =>
        rw [Act.put_defers, Act.put_comm _ v undef h2] at h
        exact ⟨keep _ (keepD d) _, h⟩
      case enter f args =>
        refine Calls.mono h fun e w'' he => ?_
        cases e with
        | returned u => exact ⟨keep a hy u, by rw [← swap u]; exact he⟩
        | panicked c => exact hQ _ _ _ he
        | outgrown => exact he
      case row row args => exact Rows.mono h fun u w'' he => ⟨keep a hy u, by rw [← swap u]; exact he⟩
    | halt x w' =>
      cases x <;> simp only [Oper.upon] at h ⊢
      case panic u => exact hQ _ _ _ h
  · rw [if_neg hw] at h ⊢
    rw [Act.put_comm a v undef h2] at h
    exact ⟨keep a hy _, h⟩

/-- Number 'k' need not have come up ahead of number 'j'. -/
def loose (md : Region.Mode) (ops : Array Oper) (j k : Nat) : Bool :=
  j != k && ((ops[j]?).map fun o => o.after.all fun e => !Region.binds md e || e.on != k).getD true

/-- Somebody who leans on the condition may come up behind number 'j'. -/
def leans (md : Region.Mode) (ops : Array Oper) (need : List Nat) (j : Nat) : Bool := need.any (loose md ops j)

theorem leans_of {need : List Nat} {i j : Nat} {oj : Oper} (hn : need.contains i = true) (hj : ops[j]? = some oj) (hji : j ≠ i) (h : ∀ e ∈ oj.after, Region.binds md e = true → e.on ≠ i) : leans md ops need j = true := by
  unfold leans
  rw [List.any_eq_true]
  refine ⟨i, by simpa using hn, ?_⟩
  unfold loose
  rw [hj]
  simp only [Option.map_some, Option.getD_some, Bool.and_eq_true, bne_iff_ne, Array.all_eq_true_iff_forall_mem, Bool.or_eq_true, Bool.not_eq_true', ne_eq]
  refine ⟨hji, fun e he => ?_⟩
  by_cases hb : Region.binds md e = true
  · exact Or.inr (h e he hb)
  · exact Or.inl (by simpa using hb)

theorem no_lean {need : List Nat} {i : Nat} {R : Prop} (h : leans md ops need i = false) (k : leans md ops need i = true) : R := by
  rw [h] at k
  cases k

/-- Whatever order is drawn from here on, from every world that meets S: what is carried out leaves another such condition, which stays, and says at least S0 where somebody of 'need' may still come up. -/
def wpDet (P : Program) (md : Region.Mode) (ops : Array Oper) (Q : Exit → Act → World → Prop) (need : List Nat) (S0 : World → Prop) : Nat → Array Bool → Act → (World → Prop) → Prop
  | 0, listed, a, S => Region.ready md ops listed = [] ∧ ∀ w, S w → Q .normal a w
  | fuel + 1, listed, a, S =>
    (Region.ready md ops listed = [] → ∀ w, S w → Q .normal a w) ∧
    ∀ i ∈ Region.ready md ops listed, ∀ w, S w → Go.wpOp P ops Q i (fun a' w' => ∃ S' : World → Prop, Stays S' ∧ (leans md ops need i = true → ∀ x, S' x → S0 x) ∧ S' w' ∧ wpDet P md ops Q need S0 fuel (listed.setIfInBounds i true) a' S') a w

variable {need : List Nat}

theorem wpAny_of_det : ∀ (fuel : Nat) (listed : Array Bool) (a : Act) (S : World → Prop) (w : World), S w → wpDet P md ops Q need S0 fuel listed a S → wpAny P md ops Q fuel listed a w
  | 0, _, _, _, w, hS, h => ⟨h.1, h.2 w hS⟩
  | fuel + 1, _, _, _, w, hS, h => ⟨fun h0 => h.1 h0 w hS, fun i hi => wpOp_mono (fun a' w' h' => by
      obtain ⟨S', _, _, hS', h''⟩ := h'
      exact wpAny_of_det fuel _ a' S' w' hS' h'') (h.2 i hi w hS)⟩

theorem wpDet_first {i : Nat} {oi : Oper} {v : Value} {T : World → Prop} (hi : ops[i]? = some oi) (hsel : ∀ (j : Nat) (o : Oper) cs b, ops[j]? = some o → o.op ≠ .select cs b)
    (hQ : ∀ c a w, Q (.panic c) (a.put oi.dst v) w → Q (.panic c) a w)
    (hT : ∀ (j : Nat) (oj : Oper) (S' : World → Prop), ops[j]? = some oj → j ≠ i → (∀ e ∈ oj.after, Region.binds md e = true → e.on ≠ i) → (leans md ops need j = true → ∀ x, S' x → S0 x) → ∀ x, S' x → T x) :
    ∀ (fuel : Nat) (listed : Array Bool) (a : Act) (S : World → Prop), Stays S → (leans md ops need i = true → ∀ x, S x → S0 x) → (∀ x, S x → T x) →
      (∀ j oj, ops[j]? = some oj → j ≠ i → listed.getD j true = false → (∀ e ∈ oj.after, Region.binds md e = true → e.on ≠ i) → oi.apart ops oj = true) →
      i ∈ Region.ready md ops listed → Gives P ops T oi v a → (∀ (j : Nat) (oj : Oper) (S' : World → Prop), ops[j]? = some oj → j ≠ i → (∀ e ∈ oj.after, Region.binds md e = true → e.on ≠ i) → (leans md ops need j = true → ∀ x, S' x → S0 x) → leans md ops need i = true → ∀ x, S' x → S0 x) →
      wpDet P md ops Q need S0 fuel (listed.setIfInBounds i true) (a.put oi.dst v) S → wpDet P md ops Q need S0 (fuel + 1) listed a S := by
  intro fuel
  induction fuel with
  | zero =>
    intro listed a S hst hn hTS _ hr hy _ H
    refine ⟨fun h => (by rw [h] at hr; cases hr), fun j hj w hS => ?_⟩
    by_cases hji : j = i
    · subst hji
      exact hy.wpOp hi (hTS w hS) fun w' hb => ⟨S, hst, hn, hst w w' hS hb, H⟩
    · have := ready_mono hj hji
      rw [H.1] at this
      cases this
  | succ fuel ih =>
    intro listed a S hst hn hTS hfree hr hy hN H
    refine ⟨fun h => (by rw [h] at hr; cases hr), fun j hj w hS => ?_⟩
    by_cases hji : j = i
    · subst hji
      exact hy.wpOp hi (hTS w hS) fun w' hb => ⟨S, hst, hn, hst w w' hS hb, H⟩
    · have h1 := H.2 j (ready_mono hj hji) w hS
      obtain ⟨hjun, oj, hoj, hall⟩ := mem_ready.1 hj
      have hnot : ∀ e ∈ oj.after, Region.binds md e = true → e.on ≠ i := fun e he hb heq => by
        have h1 := hall e he hb
        have h0 := (mem_ready.1 hr).1
        rw [heq] at h1
        rcases Nat.lt_or_ge i listed.size with h' | h'
        · simp [h'] at h0 h1; rw [h0] at h1; cases h1
        · simp [Array.getElem?_eq_none h'] at h1
      have h2 := Gives.apart hoj (hfree j oj hoj hji hjun hnot) (fun cs b => hsel i oi cs b hi) (fun cs b => hsel j oj cs b hoj) hQ hy h1
      have hfree' : ∀ k ok, ops[k]? = some ok → k ≠ i → (listed.setIfInBounds j true).getD k true = false →
          (∀ e ∈ ok.after, Region.binds md e = true → e.on ≠ i) → oi.apart ops ok = true := fun k ok hk hki hun hno => by
        refine hfree k ok hk hki ?_ hno
        by_cases hjk : j = k
        · subst hjk; exact hjun
        · rw [getD_set_ne true hjk] at hun; exact hun
      refine wpOp_mono (fun a' w' h3 => ?_) h2
      obtain ⟨hg, S', hst', h0', hS', h4⟩ := h3
      refine ⟨S', hst', h0', hS', ih (listed.setIfInBounds j true) a' S' hst' (hN j oj S' hoj hji hnot h0') (hT j oj S' hoj hji hnot h0') hfree' (ready_mono hr (Ne.symm hji)) hg hN ?_⟩
      rw [Array.setIfInBounds_comm _ _ hji]
      exact h4

/-- Take number 'i' first: one of 'need'. -/
theorem wpDet_take {i : Nat} {oi : Oper} (v : Value) {fuel : Nat} {listed : Array Bool} {a : Act} {S : World → Prop} (hst : Stays S) (h0 : ∀ x, S x → S0 x) (hi : ops[i]? = some oi)
    (hs : Region.noSelect ops = true) (hf : Region.free md ops listed i = true) (hr : (Region.ready md ops listed).contains i = true) (hn : need.contains i = true)
    (hQ : ∀ c a w, Q (.panic c) (a.put oi.dst v) w → Q (.panic c) a w) (hy : Gives P ops S0 oi v a)
    (h : wpDet P md ops Q need S0 fuel (listed.setIfInBounds i true) (a.put oi.dst v) S) : wpDet P md ops Q need S0 (fuel + 1) listed a S :=
  wpDet_first hi (Region.noSelect_spec hs) hQ (fun _ _ _ hj hji hnot h0' => h0' (leans_of hn hj hji hnot)) fuel listed a S hst (fun _ => h0) h0 (Region.free_spec hi hf) (by simpa using hr) hy (fun _ _ _ hj hji hnot h0' _ => h0' (leans_of hn hj hji hnot)) h

theorem wpDet_done {listed : Array Bool} {a : Act} {S : World → Prop} (hr : Region.ready md ops listed = []) (h : ∀ w, S w → Q .normal a w) :
    ∀ fuel, wpDet P md ops Q need S0 fuel listed a S
  | 0 => ⟨hr, h⟩
  | _ + 1 => ⟨fun _ => h, by rw [hr]; simp⟩

/-- Each of those that may come up comes up next. -/
def AllDet (P : Program) (md : Region.Mode) (ops : Array Oper) (Q : Exit → Act → World → Prop) (need : List Nat) (S0 : World → Prop) (fuel : Nat) (listed : Array Bool) (a : Act) (S : World → Prop) (rs : List Nat) : Prop :=
  ∀ i ∈ rs, ∀ w, S w → Go.wpOp P ops Q i (fun a' w' => ∃ S' : World → Prop, Stays S' ∧ (leans md ops need i = true → ∀ x, S' x → S0 x) ∧ S' w' ∧ wpDet P md ops Q need S0 fuel (listed.setIfInBounds i true) a' S') a w

theorem AllDet.nil {fuel : Nat} {listed : Array Bool} {a : Act} {S : World → Prop} : AllDet P md ops Q need S0 fuel listed a S [] := fun _ h => by cases h

theorem AllDet.cons {fuel : Nat} {listed : Array Bool} {a : Act} {S : World → Prop} {i : Nat} {o : Oper} {rs : List Nat} (ho : ops[i]? = some o)
    (h : ∀ w, S w → ∀ K' : Act → World → Prop, Shut (∀ (S' : World → Prop) a w, Stays S' → (leans md ops need i = true → ∀ x, S' x → S0 x) → S' w → wpDet P md ops Q need S0 fuel (listed.setIfInBounds i true) a S' → K' a w) → if Region.wanted o (yielded ops a.tmps) = true then Oper.wp P o a w K' Q else K' (a.put o.dst undef) w)
    (hs : AllDet P md ops Q need S0 fuel listed a S rs) : AllDet P md ops Q need S0 fuel listed a S (i :: rs) := fun j hj w hS => by
  rcases List.mem_cons.1 hj with rfl | hj
  · exact wpOp_step ho (fun K' hK => h w hS K' (fun S' a w h1 h2 h3 h4 => hK a w ⟨S', h1, h2, h3, h4⟩))
  · exact hs j hj w hS

theorem wpDet_ready {rs : List Nat} {fuel : Nat} {listed : Array Bool} {a : Act} {S : World → Prop} (hr : Region.ready md ops listed = rs) (hne : rs ≠ [])
    (h : AllDet P md ops Q need S0 fuel listed a S rs) : wpDet P md ops Q need S0 (fuel + 1) listed a S :=
  ⟨fun h0 => absurd (hr ▸ h0) hne, hr ▸ h⟩

/-- The beginning. -/
theorem wp_region_det (need : List Nat) (S0 S : World → Prop) {id : Nat} {a : Act} {w : World} (hm : P.follows .mixedOrders = true) (hS : S w.drew)
    (h : wpDet P .any ops Q need S0 ops.size (Array.replicate ops.size false) a S) : (Code.region id ops true).wp P Q a w :=
  wp_region_any hm (wpAny_of_det _ _ _ S _ hS h)

/-- A call, by its contract. -/
theorem Gives.call {o : Oper} {v : Value} {a : Act} (f : FuncId) (args : Array Value) (hw : Region.wanted o (yielded ops a.tmps) = true) (he : ∀ w, (execOp a.eval o).run P w = .ok (.enter f args) w)
    (h : ∀ w, S0 w → Calls P f args w fun e w' => e = .returned v ∧ Below w.heap.size w w') : Gives P ops S0 o v a := by
  refine Or.inl ⟨hw, fun w hS => ?_⟩
  rw [he]
  exact (h w hS).mono fun e w' ⟨h1, h2⟩ => ⟨v, h1, fun _ _ => rfl, h2⟩

/-- What only reads. -/
theorem Gives.value {o : Oper} {v : Value} {a : Act} (hw : Region.wanted o (yielded ops a.tmps) = true) (h : ∀ w, S0 w → (execOp a.eval o).run P w = .ok (.value v) w) : Gives P ops S0 o v a := by
  refine Or.inl ⟨hw, fun w hS => ?_⟩
  rw [h w hS]
  exact ⟨fun _ _ => rfl, Below.refl _ _⟩

theorem Gives.of_yields {o : Oper} {v : Value} {a : Act} (h : YieldsIf P ops S0 o v a) : Gives P ops S0 o v a := by
  rcases h with ⟨hw, h⟩ | ⟨hw, h⟩
  · exact Gives.value hw h
  · exact Or.inr ⟨hw, h⟩

/-- What is not asked for. -/
theorem Gives.not {o : Oper} {a : Act} (hw : Region.wanted o (yielded ops a.tmps) = false) : Gives P ops S0 o undef a := Or.inr ⟨hw, rfl⟩

end

/-- The ways of a region meet again: the frame is the same, of the world so much is known. -/
def MeetP (a' : Act) (R : World → Prop) : Exit → Act → World → Prop
  | .normal, a, w => a = a' ∧ R w
  | _, _, _ => False

theorem wp_meetP {P : Program} {c : Code} {Q : Exit → Act → World → Prop} {a : Act} {w : World} {a' : Act} (R : World → Prop) (h : c.wp P (MeetP a' R) a w) (k : ∀ w', R w' → Q .normal a' w') : c.wp P Q a w :=
  Code.wp_mono (fun e a2 w2 hm => by
    cases e with
    | normal => obtain ⟨rfl, h2⟩ := hm; exact k _ h2
    | _ => exact absurd hm id) h

end Go.Proofs.Ytmfmjoibofadlaa.M
