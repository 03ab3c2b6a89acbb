/-
  Own text: elements of several cells in memory: slices that can be read, rows of an owner; append; changes of the world that leave all blocks but some.
-/
import Derived.Test.YtnbgdkdnlfomeaaDoorMem
import Derived.Deep.DeepAppendRoom
import Derived.Deep.MidRow
import Derived.ArgAppend
namespace Go.Proofs.YtnbgdkdnlfomeaaDoor.M
open Go.ChangeShapes Go.WideShapes Go.ChangeAt Go.RowKit
set_option linter.unusedSimpArgs false

/-- A kind of elements: its cells, and a plain one. -/
structure Shp (T : Type) where
  cs : T → List Value
  z : T
  E : Nat
  len : ∀ m, (cs m).length = E
  one : ∀ m, ∀ v ∈ cs m, v.oneCell' = true
  pos : 0 < E

section
variable {T : Type} (S : Shp T)

/-- The cells of such, one behind the other. -/
def Shp.fl (fs : List T) : List Value := fs.flatMap S.cs

theorem Shp.fl_len (fs : List T) : (S.fl fs).length = fs.length * S.E := by
  unfold Shp.fl
  induction fs with
  | nil => simp
  | cons x r ih => rw [List.flatMap_cons, List.length_append, ih, S.len, List.length_cons, Nat.succ_mul, Nat.add_comm]

theorem Shp.fl_append (fs gs : List T) : S.fl (fs ++ gs) = S.fl fs ++ S.fl gs := List.flatMap_append

theorem Shp.fl_one (fs : List T) : ∀ v ∈ S.fl fs, v.oneCell' = true := fun v hv => by
  obtain ⟨x, _, h⟩ := List.mem_flatMap.1 hv
  exact S.one x v h

theorem Shp.fl_get : ∀ (fs : List T) (i r : Nat), i < fs.length → r < S.E → (S.fl fs)[i * S.E + r]? = some ((S.cs (fs.getD i S.z)).getD r undef)
  | [], i, r, hi, _ => by cases hi
  | x :: l, 0, r, _, hr => by
    unfold Shp.fl
    rw [List.flatMap_cons, Nat.zero_mul, Nat.zero_add, List.getElem?_append_left (by rw [S.len]; exact hr), List.getD_eq_getElem?_getD, List.getElem?_eq_getElem (by rw [S.len]; exact hr)]
    simp [List.getElem?_eq_getElem (show r < (S.cs x).length by rw [S.len]; exact hr)]
  | x :: l, i + 1, r, hi, hr => by
    have h := Shp.fl_get l i r (by simpa using hi) hr
    unfold Shp.fl at h ⊢
    rw [List.flatMap_cons, List.getElem?_append_right (by rw [S.len, Nat.succ_mul]; omega), S.len, show (i + 1) * S.E + r - S.E = i * S.E + r by rw [Nat.succ_mul]; omega, h]
    rfl

theorem Shp.fl_take : ∀ (fs : List T) (k : Nat), S.fl (fs.take k) = (S.fl fs).take (k * S.E)
  | [], k => by simp [Shp.fl]
  | x :: l, 0 => by simp [Shp.fl]
  | x :: l, k + 1 => by
    have h := Shp.fl_take l k
    unfold Shp.fl at h ⊢
    rw [List.take_succ_cons, List.flatMap_cons, List.flatMap_cons, h, Nat.succ_mul, Nat.add_comm, List.take_append, S.len, List.take_of_length_le (l := S.cs x) (by rw [S.len]; omega), show S.E + k * S.E - S.E = k * S.E by omega]

theorem Shp.fl_drop : ∀ (fs : List T) (k : Nat), S.fl (fs.drop k) = (S.fl fs).drop (k * S.E)
  | [], k => by simp [Shp.fl]
  | x :: l, 0 => by simp [Shp.fl]
  | x :: l, k + 1 => by
    have h := Shp.fl_drop l k
    unfold Shp.fl at h ⊢
    rw [List.drop_succ_cons, List.flatMap_cons, h, Nat.succ_mul, Nat.add_comm, List.drop_append, S.len, List.drop_of_length_le (l := S.cs x) (by rw [S.len]; omega), List.nil_append, show S.E + k * S.E - S.E = k * S.E by omega]

/-- A slice of such that can be read. -/
structure RdG (w : World) (p : Option Addr) (n c : Nat) (fs : List T) : Prop where
  len : fs.length = n
  cap : n ≤ c
  nil : p = none → c = 0
  flat : 0 < n → ∃ b o, p = some ⟨b, o, none⟩ ∧ ∀ j u, (S.fl fs)[j]? = some u → w.cell? ⟨b, o + j, none⟩ = some u

variable {S}

theorem RdG.at {w : World} {p : Option Addr} {n c : Nat} {fs : List T} (h : RdG S w p n c fs) (hn : 0 < n) : ∃ b o, p = some ⟨b, o, none⟩ ∧ ∀ i, i < n → ∀ r, r < S.E → w.cell? ⟨b, o + i * S.E + r, none⟩ = some ((S.cs (fs.getD i S.z)).getD r undef) := by
  obtain ⟨b, o, e, hc⟩ := h.flat hn
  refine ⟨b, o, e, fun i hi r hr => ?_⟩
  rw [Nat.add_assoc]
  exact hc _ _ (S.fl_get fs i r (by rw [h.len]; exact hi) hr)

theorem RdG.lt {w : World} {p : Option Addr} {n c : Nat} {fs : List T} (h : RdG S w p n c fs) (hn : 0 < n) {a : Addr} (ha : p = some a) : a.block < w.heap.size := by
  obtain ⟨b, o, e, hc⟩ := h.at hn
  rw [ha] at e
  cases e
  exact World.block_lt_of_cell? w ⟨b, o + 0 * S.E + 0, none⟩ (hc 0 hn 0 S.pos)

theorem RdG.nilR (w : World) (q : Option Addr) (c : Nat) (h : q = none → c = 0) : RdG S w q 0 c [] := ⟨rfl, Nat.zero_le _, h, fun h => absurd h (Nat.lt_irrefl _)⟩

theorem RdG.front {w : World} {p : Option Addr} {n c k : Nat} {fs : List T} (h : RdG S w p n c fs) (hk : k ≤ n) : RdG S w p k c (fs.take k) := by
  refine ⟨by rw [List.length_take, h.len]; omega, Nat.le_trans hk h.cap, h.nil, fun h0 => ?_⟩
  obtain ⟨b, o, e, hc⟩ := h.flat (by omega)
  refine ⟨b, o, e, fun j u hj => hc j u ?_⟩
  rw [S.fl_take] at hj
  rw [List.getElem?_take] at hj
  split at hj
  · exact hj
  · cases hj

theorem RdG.back {w : World} {b o n c k : Nat} {fs : List T} (h : RdG S w (some ⟨b, o, none⟩) n c fs) (hk : k ≤ n) : RdG S w (some ⟨b, o + k * S.E, none⟩) (n - k) (c - k) (fs.drop k) := by
  have := h.cap
  refine ⟨by rw [List.length_drop, h.len], by omega, (fun h => by cases h), fun h0 => ⟨b, _, rfl, fun j u hj => ?_⟩⟩
  obtain ⟨b', o', e, hc⟩ := h.flat (by omega)
  cases e
  rw [S.fl_drop, List.getElem?_drop] at hj
  rw [Nat.add_assoc]
  exact hc _ _ hj

theorem RdG.nth {w : World} {b o n c : Nat} {fs : List T} (h : RdG S w (some ⟨b, o, none⟩) n c fs) : ∀ j u, (S.fl fs)[j]? = some u → w.cell? ((⟨b, o, none⟩ : Addr).add j) = some u := by
  intro j u hj
  have hj' : j < fs.length * S.E := by
    rcases Nat.lt_or_ge j (fs.length * S.E) with h | h
    · exact h
    · rw [List.getElem?_eq_none (by rw [S.fl_len]; exact h)] at hj; cases hj
  have h0 : 0 < n := by
    rw [h.len] at hj'
    rcases Nat.eq_zero_or_pos n with e | e
    · rw [e, Nat.zero_mul] at hj'; omega
    · exact e
  obtain ⟨b', o', e, hc⟩ := h.flat h0
  cases e
  rw [Addr.add_lit]
  exact hc j u hj

end

/-- A change of the world that leaves all blocks but some as they were. -/
structure Ch (S : Nat → Prop) (w w' : World) : Prop where
  os : w'.os = w.os
  tape : w'.tape = w.tape
  output : w'.output = w.output
  size : w.heap.size ≤ w'.heap.size
  block : ∀ k, k < w.heap.size → ¬ S k → w'.heap[k]? = w.heap[k]?

theorem Ch.refl (S : Nat → Prop) (w : World) : Ch S w w := ⟨rfl, rfl, rfl, Nat.le_refl _, fun _ _ _ => rfl⟩
theorem Ch.trans {S : Nat → Prop} {a b c : World} (h : Ch S a b) (k : Ch S b c) : Ch S a c :=
  ⟨k.os.trans h.os, k.tape.trans h.tape, k.output.trans h.output, Nat.le_trans h.size k.size, fun j hj hs => (k.block j (Nat.lt_of_lt_of_le hj h.size) hs).trans (h.block j hj hs)⟩
theorem Ch.mono {S T : Nat → Prop} {a b : World} (h : Ch S a b) (hs : ∀ k, k < a.heap.size → S k → T k) : Ch T a b :=
  ⟨h.os, h.tape, h.output, h.size, fun j hj ht => h.block j hj fun e => ht (hs j hj e)⟩
theorem Ch.of_below {a b : World} (h : Below a.heap.size a b) (S : Nat → Prop) : Ch S a b :=
  ⟨h.os, h.tape, h.output, h.size, fun j hj _ => h.block j hj⟩
theorem Ch.below {S : Nat → Prop} {a b : World} {B : Nat} (h : Ch S a b) (hB : B ≤ a.heap.size) (hs : ∀ k, S k → B ≤ k) : Below B a b :=
  ⟨h.os, h.tape, h.output, h.size, fun j hj => h.block j (Nat.lt_of_lt_of_le hj hB) fun e => absurd (hs j e) (Nat.not_le.2 hj)⟩
theorem Ch.cell {S : Nat → Prop} {a b : World} (h : Ch S a b) {p : Addr} (hp : p.block < a.heap.size) (hs : ¬ S p.block) : b.cell? p = a.cell? p := World.cell?_of_block (h.block p.block hp hs)
theorem Ch.frozen {S : Nat → Prop} {a b : World} (h : Ch S a b) {p : Addr} (hp : p.block < a.heap.size) (hs : ¬ S p.block) : b.frozen? p = a.frozen? p := World.frozen?_of_block (h.block p.block hp hs)
theorem Ch.setCell (w : World) (a : Addr) (v : Value) : Ch (fun k => k = a.block) w (w.setCell a v) :=
  have h := (Below.refl 0 w).setCell (p := a) (Nat.zero_le _) v
  ⟨h.os, h.tape, h.output, h.size, fun _ _ hs => Below.heap_setCell _ _ _ _ hs⟩
theorem Ch.grown {w w' : World} {r : Option Nat} (h : w.grownBy w' r) (S : Nat → Prop) (hs : ∀ k, r = some k → S k) : Ch S w w' :=
  ⟨h.os, h.tape, h.output, h.size, fun j hj hn => h.block j hj fun e => hn (hs j e.symm)⟩

section
variable {T : Type} {S : Shp T}

theorem RdG.ch {X : Nat → Prop} {w w' : World} {p : Option Addr} {n c : Nat} {fs : List T} (h : RdG S w p n c fs) (hc : Ch X w w') (hs : 0 < n → ∀ a, p = some a → ¬ X a.block) : RdG S w' p n c fs := by
  refine ⟨h.len, h.cap, h.nil, fun hn => ?_⟩
  obtain ⟨b, o, hp, hcs⟩ := h.flat hn
  refine ⟨b, o, hp, fun j u hj => ?_⟩
  have h1 := hcs j u hj
  rw [hc.cell (p := ⟨b, o + j, none⟩) (World.block_lt_of_cell? _ _ h1) (show ¬ X b from hs hn ⟨b, o, none⟩ hp)]
  exact h1

theorem RdG.below {w w' : World} {p : Option Addr} {n c : Nat} {fs : List T} (h : RdG S w p n c fs) (hb : Below w.heap.size w w') : RdG S w' p n c fs :=
  h.ch (Ch.of_below hb (fun _ => False)) fun _ _ _ e => e

/-- A slice of an owner's, from block B on; one without room may point anywhere. -/
structure OwG (S : Shp T) (e : TypeId) (w : World) (B : Nat) (p : Option Addr) (n c : Nat) (fs : List T) : Prop where
  len : fs.length = n
  own : (n = 0 ∧ c = 0) ∨ w.ownsRow B e S.E (.slice p n c) n (S.fl fs)

theorem OwG.none (S : Shp T) (e : TypeId) (w : World) (B : Nat) : OwG S e w B .none 0 0 [] := ⟨rfl, Or.inl ⟨rfl, rfl⟩⟩

theorem OwG.lower {e : TypeId} {w : World} {B B' : Nat} {p : Option Addr} {n c : Nat} {fs : List T} (h : OwG S e w B p n c fs) (hB : B' ≤ B) : OwG S e w B' p n c fs :=
  ⟨h.len, h.own.imp id fun h => ownsRow_lower h hB⟩

theorem OwG.rd {e : TypeId} {w : World} {B : Nat} {p : Option Addr} {n c : Nat} {fs : List T} (h : OwG S e w B p n c fs) : RdG S w p n c fs := by
  have hl := h.len
  rcases h.own with ⟨rfl, rfl⟩ | ho
  · exact ⟨h.len, Nat.le_refl _, fun _ => rfl, fun h => absurd h (Nat.lt_irrefl _)⟩
  · have ho' := ho
    rcases ho.2 with ⟨hv, rfl⟩ | ⟨g, cap, cur, hv, hg, hh, hc, hm, hs, ht⟩
    · injection hv with e1 e2 e3
      exact ⟨h.len, by omega, fun _ => e3, fun h => absurd h (Nat.lt_irrefl _)⟩
    · injection hv with e1 e2 e3
      subst e1
      subst e3
      refine ⟨h.len, hc, (fun h => by cases h), fun _ => ⟨g, 0, rfl, fun j u hj => ?_⟩⟩
      have := ho'.cells (g := g) rfl j u hj
      rw [Addr.add_lit] at this
      exact this

/-- The block that belongs to it. -/
def mine (p : Option Addr) (c : Nat) (k : Nat) : Prop := 0 < c ∧ ∃ a, p = some a ∧ a.block = k

theorem OwG.lt {e : TypeId} {w : World} {B : Nat} {p : Option Addr} {n c : Nat} {fs : List T} (h : OwG S e w B p n c fs) {k : Nat} (hk : mine p c k) : B ≤ k ∧ k < w.heap.size := by
  obtain ⟨h0, a, ha, rfl⟩ := hk
  rcases h.own with ⟨_, h2⟩ | ho
  · omega
  · exact World.ownsRow.lt ho a.block (by rw [ha]; rfl)

theorem OwG.ch {X : Nat → Prop} {e : TypeId} {w w' : World} {B : Nat} {p : Option Addr} {n c : Nat} {fs : List T} (h : OwG S e w B p n c fs) (hc : Ch X w w') (hs : ∀ k, mine p c k → ¬ X k) : OwG S e w' B p n c fs := by
  refine ⟨h.len, ?_⟩
  rcases h.own with h2 | ho
  · exact Or.inl h2
  · rcases ho.2 with h2 | ⟨g, cap, cur, hv, hg, hh, hnc, r⟩
    · exact Or.inr ⟨ho.1, Or.inl h2⟩
    · rcases Nat.eq_zero_or_pos c with h0 | h0
      · injection hv with e1 e2 e3
        exact Or.inl ⟨by omega, h0⟩
      · refine Or.inr ⟨ho.1, Or.inr ⟨g, cap, cur, hv, hg, ?_, hnc, r⟩⟩
        injection hv with e1 e2 e3
        rw [hc.block g (Array.getElem?_eq_some_iff.1 hh).1 (hs g ⟨h0, _, e1, rfl⟩)]
        exact hh

theorem OwG.below {e : TypeId} {w w' : World} {B : Nat} {p : Option Addr} {n c : Nat} {fs : List T} (h : OwG S e w B p n c fs) (hb : Below w.heap.size w w') : OwG S e w' B p n c fs :=
  h.ch (Ch.of_below hb (fun _ => False)) fun _ _ e => e

theorem OwG.of_owns {e : TypeId} {w : World} {B n : Nat} {v : Value} {fs : List T} (h : w.ownsRow B e S.E v n (S.fl fs)) (hl : fs.length = n) (h0 : 0 < n) : ∃ g c, v = .slice (some ⟨g, 0, .none⟩) n c ∧ B ≤ g ∧ OwG S e w B (some ⟨g, 0, .none⟩) n c fs := by
  have h' := h
  rcases h.2 with ⟨_, h2⟩ | ⟨g, cap, cur, rfl, hg, _⟩
  · omega
  · exact ⟨g, cap, rfl, hg, hl, Or.inr h'⟩

/-- append of such to an owner's: in place, or new. -/
theorem run_appG {P : Program} (w : World) (t ty e : TypeId) (i : TypeInfo) (z : Value) (by_ : Nat) (ht : P.underlying t = some (.slice e)) (hi : P.info? e = some i) (hz : i.zero = some z) (hsize : i.size = S.E) (hby : i.bytes = by_) (hzs : z.cells.size = S.E)
    {B : Nat} {p q : Option Addr} {n c m d : Nat} {fs gs : List T} (ho : OwG S e w B p n c fs) (hr : RdG S w q m d gs) (hb : (n + m) * by_ ≤ 140737488355328) (h63 : n + m ≤ maxLen) (hB : B ≤ w.heap.size) :
    ∃ p' c' w', (Builtin.append_ #[t, t] ty #[.slice p n c, .slice q m d]).run P w = .ok (.slice p' (n + m) c') w' ∧ OwG S e w' B p' (n + m) c' (fs ++ gs) ∧ Ch (mine p c) w w' ∧ ∀ k, mine p' c' k → mine p c k ∨ w.heap.size ≤ k := by
  have hol := ho.len
  by_cases hm : m = 0
  · subst hm
    have : gs = [] := List.length_eq_zero_iff.1 hr.len
    subst this
    exact ⟨p, c, w, run_app_zero w t ty e i ht hi p q n c d ho.rd.cap, by simpa using ho, Ch.refl _ _, fun k hk => Or.inl hk⟩
  · have hm0 : 0 < m := Nat.pos_of_ne_zero hm
    obtain ⟨b, o, rfl, _⟩ := hr.flat hm0
    have hn := hr.nth
    have hl : (S.fl gs).length = m * S.E := by rw [S.fl_len, hr.len]
    have hlg : (fs ++ gs).length = n + m := by rw [List.length_append, hol, hr.len]
    have new : ∀ v' w', w'.ownsRow w.heap.size e S.E v' (n + m) (S.fl fs ++ S.fl gs) → w.grownBy w' .none → ∃ p' c', v' = .slice p' (n + m) c' ∧ OwG S e w' B p' (n + m) c' (fs ++ gs) ∧ Ch (mine p c) w w' ∧ ∀ k, mine p' c' k → mine p c k ∨ w.heap.size ≤ k := by
      intro v' w' h hg
      rw [← S.fl_append] at h
      obtain ⟨g, c', rfl, h1, h2⟩ := OwG.of_owns h hlg (by omega)
      refine ⟨_, _, rfl, h2.lower hB, Ch.grown hg _ (fun k e => by cases e), fun k ⟨_, a, ha, hk⟩ => Or.inr ?_⟩
      cases ha
      rw [← hk]
      exact h1
    by_cases hc0 : n = 0 ∧ c = 0
    · obtain ⟨rfl, rfl⟩ := hc0
      have hfs : fs = [] := List.length_eq_zero_iff.1 hol
      subst hfs
      cases p with
      | none =>
        obtain ⟨v', w', h1, h2, h3, _⟩ := run_append_own (P := P) w w.heap.size t ty e i z S.E by_ ht hi hz hsize hby hzs S.pos _ 0 [] (World.ownsRow_nil _ _ _ _) ⟨b, o, .none⟩ m d _ hl hn (S.fl_one gs) h63 hb (Nat.le_refl _)
        obtain ⟨p', c', rfl, h4⟩ := new v' w' h2 h3
        exact ⟨p', c', w', h1, h4⟩
      | some a =>
        obtain ⟨v', w', h1, h2, h3⟩ := run_append_arg_grows (P := P) w t ty e i z S.E by_ ht hi hz hsize hby hzs S.pos a 0 0 [] (by simp) (by simp) ⟨b, o, .none⟩ m d _ hl hn (by omega) h63 hb
        obtain ⟨p', c', rfl, h4⟩ := new v' w' h2 h3
        exact ⟨p', c', w', h1, h4⟩
    · rcases ho.own with h2 | ho2
      · exact absurd h2 hc0
      · have ho' := ho2
        rcases ho2.2 with ⟨hv, rfl⟩ | ⟨g, cap, cur, hv, hg, hh, hc2, hm2, hs2, ht2⟩
        · injection hv with e1 e2 e3
          exact absurd ⟨rfl, e3⟩ hc0
        · injection hv with e1 e2 e3
          subst e1
          subst e3
          rcases Nat.lt_or_ge c (n + m) with hlt | hge
          · obtain ⟨v', w', h1, h2, h3⟩ := run_append_arg_grows (P := P) w t ty e i z S.E by_ ht hi hz hsize hby hzs S.pos ⟨g, 0, .none⟩ n c (S.fl fs) (by rw [S.fl_len, hol]) (World.ownsRow.cells ho' rfl) ⟨b, o, .none⟩ m d _ hl hn hlt h63 hb
            obtain ⟨p', c', rfl, h4⟩ := new v' w' h2 h3
            exact ⟨p', c', w', h1, h4⟩
          · obtain ⟨w', h1, h2, h3⟩ := run_append_own_spare (P := P) w B t ty e i S.E ht hi hsize g n c _ ho' ⟨b, o, .none⟩ m d _ hl hn (S.fl_one gs) hge
            rw [← S.fl_append] at h2
            exact ⟨_, _, w', h1, ⟨hlg, Or.inr h2⟩, Ch.grown h3 _ (fun k e => by cases e; exact ⟨by omega, _, rfl, rfl⟩), fun k hk => Or.inl hk⟩

end

end Go.Proofs.YtnbgdkdnlfomeaaDoor.M
