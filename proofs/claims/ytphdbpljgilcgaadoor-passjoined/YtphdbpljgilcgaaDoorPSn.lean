/-
  Own text: what was seen, in plain words: numbers with versions, rising. No program is looked at.
-/
namespace Go.Proofs.YtphdbpljgilcgaaDoor.M
set_option linter.unusedSimpArgs false

/-- One that was seen: its key as a number, its version. -/
structure Sn where
  n : Nat
  v : Int

def Sn.z0 : Sn := ⟨0, 0⟩

def Sn.tup (m : Sn) : Nat × Int := (m.n, m.v)

theorem Sn.tup_inj (x y : Sn) (h : x.tup = y.tup) : x = y := by
  obtain ⟨a, b⟩ := x
  obtain ⟨a', b'⟩ := y
  simp only [Sn.tup, Prod.mk.injEq] at h
  obtain ⟨h0, h1⟩ := h
  subst h0 h1
  rfl

def eqSn (x y : Sn) : Bool := decide (x.tup = y.tup)

def eqSns (xs ys : List Sn) : Bool := decide (xs.map Sn.tup = ys.map Sn.tup)

theorem eqSn_iff (x y : Sn) : eqSn x y = true ↔ x = y := ⟨fun h => Sn.tup_inj x y (of_decide_eq_true h), fun h => by subst h; exact decide_eq_true rfl⟩

theorem eqSn_self (x : Sn) : eqSn x x = true := decide_eq_true rfl

theorem eqSn_false {x y : Sn} (h : ¬ x = y) : eqSn x y = false := decide_eq_false (fun e => h (Sn.tup_inj x y e))

theorem Sn.map_inj : ∀ (xs ys : List Sn), xs.map Sn.tup = ys.map Sn.tup → xs = ys
  | [], [], _ => rfl
  | [], _ :: _, h => by simp at h
  | _ :: _, [], h => by simp at h
  | x :: xs, y :: ys, h => by
    rw [List.map_cons, List.map_cons] at h
    injection h with h1 h2
    rw [Sn.tup_inj x y h1, Sn.map_inj xs ys h2]

theorem eqSns_iff (xs ys : List Sn) : eqSns xs ys = true ↔ xs = ys := ⟨fun h => Sn.map_inj xs ys (of_decide_eq_true h), fun h => by subst h; exact decide_eq_true rfl⟩

theorem eqSns_self (xs : List Sn) : eqSns xs xs = true := decide_eq_true rfl

theorem eqSns_false {xs ys : List Sn} (h : ¬ xs = ys) : eqSns xs ys = false := decide_eq_false (fun e => h (Sn.map_inj xs ys e))

/-- Where a number stands, or would stand. -/
def fnd : List Sn → Nat → Nat
  | [], _ => 0
  | a :: l, n => if n ≤ a.n then 0 else fnd l n + 1

/-- Whether it is there. -/
def isA : List Sn → Nat → Bool
  | [], _ => false
  | a :: l, n => if n ≤ a.n then decide (a.n = n) else isA l n

/-- The version of a number; 0: it is not there. -/
def fl : List Sn → Nat → Int
  | [], _ => 0
  | a :: l, n => if a.n = n then a.v else fl l n

/-- One version more. -/
def ins : List Sn → Nat → Int → List Sn
  | [], n, v => if 0 < v then [⟨n, v⟩] else []
  | a :: l, n, v => if n ≤ a.n then (if a.n = n then ⟨n, max a.v v⟩ :: l else if 0 < v then ⟨n, v⟩ :: a :: l else a :: l) else a :: ins l n v

/-- Rising, each version above 0. -/
def Ris (l : List Sn) : Prop := l.Pairwise (fun a b => a.n < b.n) ∧ ∀ a ∈ l, 0 < a.v

theorem Ris.nil : Ris [] := ⟨List.Pairwise.nil, fun _ h => by cases h⟩

theorem Ris.tail {a : Sn} {l : List Sn} (h : Ris (a :: l)) : Ris l := ⟨(List.pairwise_cons.1 h.1).2, fun b hb => h.2 b (List.mem_cons_of_mem _ hb)⟩

theorem Ris.head {a : Sn} {l : List Sn} (h : Ris (a :: l)) : 0 < a.v ∧ ∀ b ∈ l, a.n < b.n := ⟨h.2 a (List.mem_cons_self ..), (List.pairwise_cons.1 h.1).1⟩

theorem Ris.cons {a : Sn} {l : List Sn} (h : Ris l) (h0 : 0 < a.v) (h1 : ∀ b ∈ l, a.n < b.n) : Ris (a :: l) :=
  ⟨List.pairwise_cons.2 ⟨h1, h.1⟩, fun b hb => by
    rcases List.mem_cons.1 hb with rfl | hb
    · exact h0
    · exact h.2 b hb⟩

theorem fnd_le : ∀ (l : List Sn) (n : Nat), fnd l n ≤ l.length
  | [], _ => Nat.le_refl _
  | a :: l, n => by
    unfold fnd
    have := fnd_le l n
    split <;> simp <;> omega

theorem isA_lt : ∀ (l : List Sn) (n : Nat), isA l n = true → fnd l n < l.length ∧ (l.getD (fnd l n) .z0).n = n
  | [], _, h => by cases h
  | a :: l, n, h => by
    unfold isA at h
    unfold fnd
    split
    · next hh =>
      rw [if_pos hh] at h
      exact ⟨by simp, by simpa using h⟩
    · next hh =>
      rw [if_neg hh] at h
      obtain ⟨h1, h2⟩ := isA_lt l n h
      exact ⟨by simp; exact h1, by simpa using h2⟩

theorem fnd_lt : ∀ (l : List Sn) (n i : Nat), i < fnd l n → (l.getD i .z0).n < n
  | [], _, _, h => by simp [fnd] at h
  | a :: l, n, i, h => by
    unfold fnd at h
    split at h
    · omega
    · next hh =>
      cases i with
      | zero => simp; omega
      | succ j => simpa using fnd_lt l n j (by omega)

theorem fnd_at : ∀ (l : List Sn) (n i : Nat), i ≤ l.length → (∀ j, j < i → (l.getD j .z0).n < n) → (i < l.length → n ≤ (l.getD i .z0).n) → fnd l n = i ∧ isA l n = (decide (i < l.length) && decide ((l.getD i .z0).n = n))
  | [], _, i, h, _, _ => by
    obtain rfl : i = 0 := by simpa using h
    exact ⟨rfl, rfl⟩
  | a :: l, n, 0, _, _, h2 => by
    have := h2 (by simp)
    simp only [List.getD_cons_zero] at this
    unfold fnd isA
    rw [if_pos this, if_pos this]
    exact ⟨rfl, by simp⟩
  | a :: l, n, i + 1, h, h1, h2 => by
    have h0 := h1 0 (by omega)
    simp only [List.getD_cons_zero] at h0
    obtain ⟨e1, e2⟩ := fnd_at l n i (by simpa using h) (fun j hj => by have := h1 (j + 1) (by omega); simpa using this) (fun hi => by have := h2 (by simpa using hi); simpa using this)
    unfold fnd isA
    rw [if_neg (by omega), if_neg (by omega), e1, e2]
    exact ⟨rfl, by simp⟩

theorem fl_far : ∀ (l : List Sn) (n : Nat), (∀ b ∈ l, n < b.n) → fl l n = 0
  | [], _, _ => rfl
  | a :: l, n, h => by
    have h1 := h a (List.mem_cons_self ..)
    unfold fl
    rw [if_neg (by omega), fl_far l n (fun b hb => h b (List.mem_cons_of_mem _ hb))]

theorem fl_at : ∀ (l : List Sn) (n : Nat), Ris l → fl l n = if isA l n = true then (l.getD (fnd l n) .z0).v else 0
  | [], _, _ => rfl
  | a :: l, n, h => by
    obtain ⟨_, h2⟩ := h.head
    have ih := fl_at l n h.tail
    unfold fl isA fnd
    by_cases e : a.n = n
    · subst e
      simp
    · rw [if_neg e]
      by_cases hh : n ≤ a.n
      · rw [if_pos hh, if_pos hh, if_neg (by simpa using e)]
        exact fl_far l n fun b hb => by have := h2 b hb; omega
      · rw [if_neg hh, if_neg hh, ih]
        by_cases hA : isA l n = true
        · rw [if_pos hA, if_pos hA]; simp
        · rw [if_neg hA, if_neg hA]

theorem ins_at : ∀ (l : List Sn) (n : Nat) (v : Int), ins l n v = if isA l n = true then l.set (fnd l n) ⟨n, max (l.getD (fnd l n) .z0).v v⟩ else if 0 < v then l.take (fnd l n) ++ ⟨n, v⟩ :: l.drop (fnd l n) else l
  | [], n, v => by
    unfold ins
    simp [fnd, isA]
  | a :: l, n, v => by
    have ih := ins_at l n v
    unfold ins isA fnd
    by_cases hh : n ≤ a.n
    · rw [if_pos hh, if_pos hh, if_pos hh]
      by_cases e : a.n = n
      · simp [e]
      · simp [e]
    · rw [if_neg hh, if_neg hh, if_neg hh, ih]
      by_cases hA : isA l n = true
      · rw [if_pos hA, if_pos hA]; simp
      · rw [if_neg hA, if_neg hA]
        split <;> simp

theorem ins_mem : ∀ (l : List Sn) (n : Nat) (v : Int) (b : Sn), b ∈ ins l n v → b ∈ l ∨ b.n = n ∧ 0 ≤ b.v ∧ (0 < b.v ∨ ∃ a ∈ l, a.n = n ∧ a.v ≤ b.v) ∨ b.n = n
  | [], n, v, b, h => by
    unfold ins at h
    split at h
    · rw [List.mem_singleton.1 h]; exact Or.inr (Or.inr rfl)
    · cases h
  | a :: l, n, v, b, h => by
    unfold ins at h
    split at h
    · split at h
      · rcases List.mem_cons.1 h with rfl | h
        · exact Or.inr (Or.inr rfl)
        · exact Or.inl (List.mem_cons_of_mem _ h)
      · split at h
        · rcases List.mem_cons.1 h with rfl | h
          · exact Or.inr (Or.inr rfl)
          · exact Or.inl h
        · exact Or.inl h
    · rcases List.mem_cons.1 h with rfl | h
      · exact Or.inl (List.mem_cons_self ..)
      · rcases ins_mem l n v b h with h | h | h
        · exact Or.inl (List.mem_cons_of_mem _ h)
        · exact Or.inr (Or.inr h.1)
        · exact Or.inr (Or.inr h)

theorem ins_num {l : List Sn} {n : Nat} {v : Int} {b : Sn} (h : b ∈ ins l n v) : b ∈ l ∨ b.n = n := by
  rcases ins_mem l n v b h with h | h | h
  · exact Or.inl h
  · exact Or.inr h.1
  · exact Or.inr h

/-- What each that is there is like: so is it behind. -/
theorem ins_all {p : Sn → Prop} : ∀ (l : List Sn) (n : Nat) (v : Int), (∀ a ∈ l, p a) → (0 < v → p ⟨n, v⟩) → (∀ a : Sn, a ∈ l → a.n = n → p ⟨n, max a.v v⟩) → ∀ b ∈ ins l n v, p b
  | [], n, v, _, h2, _, b, h => by
    unfold ins at h
    split at h
    · rw [List.mem_singleton.1 h]; exact h2 ‹_›
    · cases h
  | a :: l, n, v, h1, h2, h3, b, h => by
    unfold ins at h
    split at h
    · split at h
      · rcases List.mem_cons.1 h with rfl | h
        · exact h3 a (List.mem_cons_self ..) ‹_›
        · exact h1 b (List.mem_cons_of_mem _ h)
      · split at h
        · rcases List.mem_cons.1 h with rfl | h
          · exact h2 ‹_›
          · exact h1 b h
        · exact h1 b h
    · rcases List.mem_cons.1 h with rfl | h
      · exact h1 b (List.mem_cons_self ..)
      · exact ins_all l n v (fun a ha => h1 a (List.mem_cons_of_mem _ ha)) h2 (fun a ha => h3 a (List.mem_cons_of_mem _ ha)) b h

theorem ins_ris : ∀ (l : List Sn) (n : Nat) (v : Int), Ris l → Ris (ins l n v)
  | [], n, v, _ => by
    unfold ins
    split
    · exact Ris.nil.cons ‹_› (fun b hb => by cases hb)
    · exact Ris.nil
  | a :: l, n, v, h => by
    obtain ⟨h1, h2⟩ := h.head
    unfold ins
    split
    · next hh =>
      split
      · next e => exact h.tail.cons (show 0 < max a.v v by omega) (fun b hb => by have := h2 b hb; simp; omega)
      · next e =>
        split
        · next hv =>
          refine h.cons hv (fun b hb => ?_)
          rcases List.mem_cons.1 hb with rfl | hb
          · simp; omega
          · have := h2 b hb; simp; omega
        · exact h
    · next hh =>
      refine (ins_ris l n v h.tail).cons h1 (fun b hb => ?_)
      rcases ins_num hb with hb | hb
      · exact h2 b hb
      · omega

theorem fl_ins : ∀ (l : List Sn) (n : Nat) (v : Int) (m : Nat), Ris l → 0 ≤ v → fl (ins l n v) m = if m = n then max (fl l n) v else fl l m
  | [], n, v, m, _, hv => by
    unfold ins
    by_cases h : 0 < v
    · rw [if_pos h]
      unfold fl
      by_cases e : m = n
      · rw [if_pos e, if_pos (by rw [e])]; simp; omega
      · rw [if_neg e, if_neg (fun h => e h.symm)]; rfl
    · rw [if_neg h]
      by_cases e : m = n
      · rw [if_pos e]; simp [fl]; omega
      · rw [if_neg e]
  | a :: l, n, v, m, hr, hv => by
    obtain ⟨h1, h2⟩ := hr.head
    have ih := fl_ins l n v m hr.tail hv
    unfold ins
    by_cases hh : n ≤ a.n
    · rw [if_pos hh]
      by_cases e : a.n = n
      · rw [if_pos e]
        subst e
        by_cases em : m = a.n
        · subst em; simp [fl]
        · rw [if_neg em]; simp only [fl]; rw [if_neg (fun h => em h.symm), if_neg (fun h => em h.symm)]
      · have hz : fl (a :: l) n = 0 := fl_far _ _ fun b hb => by
          rcases List.mem_cons.1 hb with rfl | hb
          · omega
          · have := h2 b hb; omega
        rw [if_neg e, hz]
        by_cases h0 : 0 < v
        · rw [if_pos h0]
          by_cases em : m = n
          · subst em; simp [fl]; omega
          · rw [if_neg em]; rw [show fl (⟨n, v⟩ :: a :: l) m = if n = m then v else fl (a :: l) m from rfl, if_neg (fun h => em h.symm)]
        · rw [if_neg h0]
          by_cases em : m = n
          · subst em; rw [if_pos rfl, hz]; omega
          · rw [if_neg em]
    · rw [if_neg hh]
      show (if a.n = m then a.v else fl (ins l n v) m) = if m = n then max (if a.n = n then a.v else fl l n) v else if a.n = m then a.v else fl l m
      rw [if_neg (show ¬ a.n = n by omega), ih]
      by_cases em : m = n
      · rw [if_pos em, if_pos em, if_neg (by omega)]
      · rw [if_neg em, if_neg em]

/-- Two that rise and tell the same are the same. -/
theorem Ris.ext : ∀ (x y : List Sn), Ris x → Ris y → (∀ m, fl x m = fl y m) → x = y
  | [], [], _, _, _ => rfl
  | [], b :: y, _, hy, h => by
    have := h b.n
    have h2 := hy.head.1
    simp [fl] at this
    omega
  | a :: x, [], hx, _, h => by
    have := h a.n
    have h2 := hx.head.1
    simp [fl] at this
    omega
  | a :: x, b :: y, hx, hy, h => by
    obtain ⟨a1, a2⟩ := hx.head
    obtain ⟨b1, b2⟩ := hy.head
    have hab : a.n = b.n := by
      rcases Nat.lt_trichotomy a.n b.n with g | g | g
      · have := h a.n
        rw [fl_far (b :: y) a.n (fun c hc => by
          rcases List.mem_cons.1 hc with rfl | hc
          · exact g
          · have := b2 c hc; omega)] at this
        simp [fl] at this
        omega
      · exact g
      · have := h b.n
        rw [fl_far (a :: x) b.n (fun c hc => by
          rcases List.mem_cons.1 hc with rfl | hc
          · exact g
          · have := a2 c hc; omega)] at this
        simp [fl] at this
        omega
    have hv : a.v = b.v := by
      have := h a.n
      simp only [fl] at this
      rw [if_pos trivial, if_pos hab.symm] at this
      exact this
    have hxy : x = y := by
      refine Ris.ext x y hx.tail hy.tail fun m => ?_
      by_cases e : a.n = m
      · rw [fl_far x m (fun c hc => by have := a2 c hc; omega), fl_far y m (fun c hc => by have := b2 c hc; omega)]
      · have := h m
        simp only [fl] at this
        rw [if_neg e, if_neg (by omega)] at this
        exact this
    obtain ⟨an, av⟩ := a
    obtain ⟨bn, bv⟩ := b
    simp only at hab hv
    subst hab hv hxy
    rfl

theorem ins_len : ∀ (l : List Sn) (n : Nat) (v : Int), l.length ≤ (ins l n v).length ∧ (ins l n v).length ≤ l.length + 1
  | [], n, v => by unfold ins; split <;> simp
  | a :: l, n, v => by
    have := ins_len l n v
    unfold ins
    split
    · split
      · simp
      · split <;> simp
    · simp; omega

/-- Both together. -/
def joi (a : List Sn) (b : List Sn) : List Sn := b.foldl (fun o s => ins o s.n s.v) a

theorem joi_nil (a : List Sn) : joi a [] = a := rfl

theorem joi_cons (a : List Sn) (s : Sn) (b : List Sn) : joi a (s :: b) = joi (ins a s.n s.v) b := rfl

theorem joi_snoc (a : List Sn) (b : List Sn) (s : Sn) : joi a (b ++ [s]) = ins (joi a b) s.n s.v := by simp [joi]

theorem joi_ris : ∀ (b a : List Sn), Ris a → Ris (joi a b)
  | [], _, h => h
  | s :: b, a, h => joi_ris b _ (ins_ris a s.n s.v h)

theorem joi_len : ∀ (b a : List Sn), a.length ≤ (joi a b).length
  | [], _ => Nat.le_refl _
  | s :: b, a => Nat.le_trans (ins_len a s.n s.v).1 (joi_len b _)

theorem joi_all {p : Sn → Prop} (hm : ∀ n u v, p ⟨n, u⟩ → p ⟨n, v⟩ → p ⟨n, max u v⟩) : ∀ (b a : List Sn), (∀ s ∈ a, p s) → (∀ s ∈ b, p s) → ∀ s ∈ joi a b, p s
  | [], _, ha, _ => ha
  | t :: b, a, ha, hb => by
    rw [joi_cons]
    have ht := hb t (List.mem_cons_self ..)
    exact joi_all hm b _ (ins_all a t.n t.v ha (fun _ => ht) (fun c hc hn => hm t.n c.v t.v (by rw [← hn]; exact ha c hc) ht)) (fun s hs => hb s (List.mem_cons_of_mem _ hs))

theorem fl_pos : ∀ (l : List Sn) (n : Nat), Ris l → 0 ≤ fl l n
  | [], _, _ => by simp [fl]
  | a :: l, n, h => by
    have h1 := h.head.1
    have h2 := fl_pos l n h.tail
    unfold fl
    split <;> omega

theorem fl_joi : ∀ (b a : List Sn) (m : Nat), Ris a → Ris b → fl (joi a b) m = max (fl a m) (fl b m)
  | [], a, m, ha, _ => by
    have := fl_pos a m ha
    simp [joi, fl]; omega
  | s :: b, a, m, ha, hb => by
    obtain ⟨h1, h2⟩ := hb.head
    rw [joi_cons, fl_joi b _ m (ins_ris a s.n s.v ha) hb.tail, fl_ins a s.n s.v m ha (by omega)]
    simp only [fl]
    by_cases e : m = s.n
    · subst e
      rw [if_pos rfl, if_pos rfl, fl_far b s.n h2]
      have := fl_pos a s.n ha
      omega
    · rw [if_neg e, if_neg (fun h => e h.symm)]

theorem joi_comm {a b : List Sn} (ha : Ris a) (hb : Ris b) : joi a b = joi b a :=
  Ris.ext _ _ (joi_ris b a ha) (joi_ris a b hb) fun m => by rw [fl_joi b a m ha hb, fl_joi a b m hb ha]; omega

theorem joi_again {a b : List Sn} (ha : Ris a) (hb : Ris b) : joi (joi a b) b = joi a b :=
  Ris.ext _ _ (joi_ris b _ (joi_ris b a ha)) (joi_ris b a ha) fun m => by rw [fl_joi b _ m (joi_ris b a ha) hb, fl_joi b a m ha hb]; omega

end Go.Proofs.YtphdbpljgilcgaaDoor.M
