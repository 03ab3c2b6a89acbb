/-
  Own text: lists of calls cloned and appended; a disk made apart from all that was there.
-/
import Derived.Test.YtcgpdaalehgjdaaDAlike
namespace Go.Proofs.Ytcgpdaalehgjdaa.M
open Go.ChangeShapes Go.WideShapes Go.ChangeAt Go.RowKit

/-- A call's cells. -/
def Dv.cs (x : Dv) : List Value := [.int .i64 x.op, .int .i64 x.i, .int .i64 x.n, .slice x.bq x.bl x.bc, .slice x.kq x.kl x.kc]

/-- The cells of calls. -/
def csQ : List Dv → List Value
  | [] => []
  | x :: r => x.cs ++ csQ r

theorem csQ_len : ∀ ls : List Dv, (csQ ls).length = ls.length * 5
  | [] => rfl
  | x :: r => by
    show (x.cs ++ csQ r).length = _
    rw [List.length_append, csQ_len r, List.length_cons]
    show 5 + _ = _
    omega

theorem csQ_app : ∀ a b : List Dv, csQ (a ++ b) = csQ a ++ csQ b
  | [], _ => rfl
  | x :: r, b => by
    show x.cs ++ csQ (r ++ b) = (x.cs ++ csQ r) ++ csQ b
    rw [csQ_app r b, List.append_assoc]

theorem csQ_one : ∀ (ls : List Dv), ∀ u ∈ csQ ls, u.oneCell' = true
  | [], u, h => by cases h
  | x :: r, u, h => by
    rcases List.mem_append.1 h with h | h
    · simp only [Dv.cs, List.mem_cons, List.not_mem_nil, or_false] at h
      rcases h with rfl | rfl | rfl | rfl | rfl <;> rfl
    · exact csQ_one r u h

/-- The cell r of the i-th call. -/
theorem csQ_at : ∀ (ls : List Dv) (i r : Nat), i < ls.length → r < 5 → (csQ ls)[i * 5 + r]? = (ls.getD i .z0).cs[r]?
  | [], _, _, h, _ => by cases h
  | x :: l, 0, r, _, hr => by
    show (x.cs ++ csQ l)[0 * 5 + r]? = _
    rw [Nat.zero_mul, Nat.zero_add, List.getElem?_append_left (by show r < 5; exact hr)]
    rfl
  | x :: l, i + 1, r, h, hr => by
    show (x.cs ++ csQ l)[(i + 1) * 5 + r]? = _
    rw [List.getElem?_append_right (by show 5 ≤ _; omega)]
    have e : (i + 1) * 5 + r - x.cs.length = i * 5 + r := by show (i + 1) * 5 + r - 5 = _; omega
    rw [e, csQ_at l i r (by simpa using h) hr]
    rfl

/-- A slice of the call's own that holds these calls. -/
def OwQ (w : World) (B : Nat) (v : Value) (ls : List Dv) : Prop := w.ownsRow B 35 5 v ls.length (csQ ls)

theorem OwQ.nil (w : World) (B : Nat) : OwQ w B (.slice none 0 0) [] := World.ownsRow_nil _ _ _ _

theorem OwQ.rd {w : World} {B : Nat} {v : Value} {ls : List Dv} (h : OwQ w B v ls) (hr : ∀ j, j < ls.length → (ls.getD j .z0).rd w) : ∃ q c, v = .slice q ls.length c ∧ RdQ w q ls.length c ls := by
  have h' := h
  rcases h.2 with ⟨rfl, h0⟩ | ⟨g, cap, cur, rfl, hg, _⟩
  · exact ⟨none, 0, by rw [h0], rfl, fun h => by omega, hr⟩
  · refine ⟨_, _, rfl, rfl, fun _ => ⟨g, 0, rfl, fun j hj => ?_⟩, hr⟩
    have hc := World.ownsRow.cells h' (g := g) rfl
    have c := fun (r : Nat) (hr5 : r < 5) (u : Value) (hu : (ls.getD j .z0).cs[r]? = some u) => hc (j * 5 + r) u ((csQ_at ls j r hj hr5).trans hu)
    have c0 := c 0 (by decide) _ rfl
    have c1 := c 1 (by decide) _ rfl
    have c2 := c 2 (by decide) _ rfl
    have c3 := c 3 (by decide) _ rfl
    have c4 := c 4 (by decide) _ rfl
    rw [Addr.add_lit] at c0 c1 c2 c3 c4
    exact ⟨c0, by rw [Nat.add_assoc]; exact c1, by rw [Nat.add_assoc]; exact c2, by rw [Nat.add_assoc]; exact c3, by rw [Nat.add_assoc]; exact c4⟩

theorem infoDo : (Try.prog.info? 35).map (fun i => (i.zero, i.size, i.bytes)) = some (some (.agg #[.int .i64 0, .int .i64 0, .int .i64 0, .slice none 0 0, .slice none 0 0]), 5, 72) := by kernel_rfl

theorem infoQ_parts {P : Program} {t : TypeId} {z : Value} {s b : Nat} (h : (P.info? t).map (fun i => (i.zero, i.size, i.bytes)) = some (some z, s, b)) : ∃ i, P.info? t = some i ∧ i.zero = some z ∧ i.size = s ∧ i.bytes = b := by
  cases hi : P.info? t with
  | none => rw [hi] at h; cases h
  | some i =>
    rw [hi] at h
    simp only [Option.map_some, Option.some.injEq, Prod.mk.injEq] at h
    exact ⟨i, rfl, h.1, h.2.1, h.2.2⟩

/-- append(s, x...) of calls: s the call's own, x whatever can be read. -/
theorem wpList_appQ (w : World) {ops : Array Oper} {rest : List Oper} {o : Oper} {a : Act} {Q : Exit → Act → World → Prop} (hgd : o.guard = none) (s x : Operand)
    (hop : o.op = .call { callee := .builtin .append, args := #[s, x], argTypes := #[22, 22] })
    (B : Nat) (v : Value) (ls : List Dv) (hs : a.eval s = v) (ho : OwQ w B v ls) (q : Option Addr) (m d : Nat) (ks : List Dv) (hx : a.eval x = .slice q m d) (hr : RdQ w q m d ks) (hl : ls.length ≤ 1000) (hk : m ≤ 1000) (hB : B ≤ w.heap.size)
    (h : ∀ v' w', OwQ w' B v' (ls ++ ks) → Below B w w' → wpList Try.prog ops Q rest (a.put o.dst v') w') : wpList Try.prog ops Q (o :: rest) a w := by
  obtain ⟨i0, hi0, hz0, hz1, hz2⟩ := infoQ_parts infoDo
  by_cases h0 : m = 0
  · subst h0
    obtain rfl : ks = [] := List.length_eq_zero_iff.1 hr.len
    refine wpList_plain hgd fun K hK => ?_
    have hv : ∃ p c, v = .slice p ls.length c ∧ ls.length ≤ c := by
      rcases ho.2 with ⟨rfl, h0⟩ | ⟨g, cap, cur, rfl, _, _, hc, _⟩
      · exact ⟨none, 0, by rw [h0], by omega⟩
      · exact ⟨_, _, rfl, hc⟩
    obtain ⟨p, c, rfl, hc⟩ := hv
    have hrun := run_app_zero (P := Try.prog) w 22 o.type 35 i0 Try.underlying22 hi0 p q ls.length c d hc
    unfold Oper.wp
    simp [execOp, hop, resolve, invoke, builtin, hs, hx, hrun, Result.andThen]
    exact hK _ _ (h _ _ (by rw [List.append_nil]; exact ho) (Below.refl _ _))
  · obtain ⟨b, ob, rfl, hc⟩ := hr.cells (by omega)
    refine wpList_append_own w hgd s x _ hop B 35 i0 _ 5 72 Try.underlying22 hi0 hz0 hz1 hz2 rfl (by decide) v ls.length (csQ ls) hs ho ⟨b, ob, none⟩ m d (csQ ks) hx (by rw [csQ_len, hr.len]) ?_ (csQ_one ks) (by unfold maxLen; omega) (by omega) hB ?_
    · intro j u hj
      have hjl : j < ks.length * 5 := by
        have := (List.getElem?_eq_some_iff.1 hj).1
        rw [csQ_len] at this
        exact this
      rw [hr.len] at hjl
      have hdm := Nat.div_add_mod j 5
      have hi : j / 5 < m := by omega
      have hrr : j % 5 < 5 := Nat.mod_lt _ (by decide)
      have e : j = j / 5 * 5 + j % 5 := by omega
      rw [e, csQ_at ks (j / 5) (j % 5) (by rw [hr.len]; exact hi) hrr] at hj
      have hat := hc (j / 5) hi
      rw [Addr.add_lit, e, ← Nat.add_assoc]
      generalize j % 5 = r at *
      match r, hrr, hj with
      | 0, _, hj => cases hj; exact hat.c0
      | 1, _, hj => cases hj; exact hat.c1
      | 2, _, hj => cases hj; exact hat.c2
      | 3, _, hj => cases hj; exact hat.c3
      | 4, _, hj => cases hj; exact hat.c4
    · intro v' w' h1 h2 _
      refine h v' w' ?_ ?_
      · unfold OwQ
        rw [csQ_app, List.length_append, hr.len]
        exact h1
      · refine (Below.refl B w).grown h2 hB fun r hr' => ?_
        exact (World.ownsRow.lt ho r hr').1

set_option maxRecDepth 20000 in
theorem qclone_any (p : Option Addr) (n c : Nat) (ls : List Dv) (w : World) (hr : RdQ w p n c ls) (hp : p = none → n = 0) (hn : n ≤ 1000) :
    Calls Try.prog 32 #[.slice p n c] w fun e w' => ∃ v, e = .returned v ∧ OwQ w' w.heap.size v ls ∧ Below w.heap.size w w' := by
  have q22 : ∀ (w : World) (a : Option Addr) (n c n' c' : Nat), (binOp .eql 22 (.slice a n c) (.slice none n' c')).run Try.prog w = .ok (.bool a.isNone) w := fun w a n c n' c' => Lib.run_eql_slice_nil w _ _ a n c n' c' Try.underlying22
  cases p with
  | none =>
    obtain rfl : n = 0 := hp rfl
    obtain rfl : ls = [] := List.length_eq_zero_iff.1 hr.len
    go_enter Try.func32, Try.ntmps32
    go_wp2_with fail
    go_ret
    exact ⟨_, rfl, OwQ.nil _ _, Below.refl _ _⟩
  | some ad =>
    have hba := (Below.refl w.heap.size w).alloc (Nat.le_refl _) (.cells #[] 35)
    have hra := hr.below hba
    have ho : OwQ (w.alloc (.cells #[] 35)) w.heap.size (.slice (some ⟨w.heap.size, 0, none⟩) 0 0) [] := World.ownsRow_made w #[] 0 (Nat.le_refl _) (Nat.zero_le _) rfl
    clear hr
    go_enter Try.func32, Try.ntmps32
    go_wp2_with (refine wpList_appQ _ rfl (.tmp 5) (.tmp 6) rfl w.heap.size _ [] rfl ho (some ad) n c ls rfl hra (by decide) hn ?c3 ?_)
    case c3 => simp
    intro v' w' h1 hb2
    go_wp2_with fail
    go_ret
    exact ⟨v', rfl, by simpa using h1, hba.trans hb2⟩

/-- Some mark that is no file's. -/
def farM : Nat := 1000

/-- A disk's marks, as another list of marks has them. -/
theorem DA.reown {w : World} {B : Nat} {own own' : Nat → Nat} {a g : Nat} {d : Dk} {m : PD} (h : DA w B own a g d m) (ho : ∀ k, own k = mark a 0 ∨ own k = mark a 1 ∨ own k = mark a 2 ∨ own k = mark a 3 ∨ own k = mark a 4 ∨ own k = mark a 5 ∨ own k = mark a 6 ∨ own k = mark a 7 → own' k = own k) (hg : own' g = 0) (hk : ∀ x, d.kp = some x → own' x.block = 0) (hf : ∀ k, w.heap.size ≤ k → own' k = 0) : DA w B own' a g d m := by
  have ho' : ∀ i k, i < 8 → own k = mark a i → own' k = mark a i := fun i k hi e => by
    rw [ho k ?_, e]
    match i, hi with
    | 0, _ => exact Or.inl e
    | 1, _ => exact Or.inr (Or.inl e)
    | 2, _ => exact Or.inr (Or.inr (Or.inl e))
    | 3, _ => exact Or.inr (Or.inr (Or.inr (Or.inl e)))
    | 4, _ => exact Or.inr (Or.inr (Or.inr (Or.inr (Or.inl e))))
    | 5, _ => exact Or.inr (Or.inr (Or.inr (Or.inr (Or.inr (Or.inl e)))))
    | 6, _ => exact Or.inr (Or.inr (Or.inr (Or.inr (Or.inr (Or.inr (Or.inl e))))))
    | 7, _ => exact Or.inr (Or.inr (Or.inr (Or.inr (Or.inr (Or.inr (Or.inr e))))))
    | k + 8, h => exact absurd h (by omega)
  exact ⟨h.dc, h.room, h.down, h.left, h.cl, fun i hi => ⟨(h.fm i hi).told, (h.fm i hi).lasts, fun x e => ho' i _ hi ((h.fm i hi).tg x e), fun x e => ho' i _ hi ((h.fm i hi).lg x e), (h.fm i hi).begins, (h.fm i hi).apart⟩, h.keep, hg, fun x e => ⟨hk x e, (h.ok x e).2.1, (h.ok x e).2.2⟩, h.bg, hf⟩

/-- What changes of disk a alone leaves all that was there ahead of it. -/
theorem Ch.mine_far {own : Nat → Nat} {a g B : Nat} {w w' : World} (ha : a ≤ 100) (h : Ch (Mine own a g) w w') (hB : B ≤ w.heap.size) (hg : B ≤ g) (ho : ∀ k, k < B → own k = farM) : Below B w w' :=
  h.below hB fun k hk => by
    rcases hk with rfl | ⟨i, hi, e⟩
    · exact hg
    · refine Nat.le_of_not_lt fun hlt => ?_
      rw [ho k hlt] at e
      unfold mark farM at e
      omega

set_option maxRecDepth 20000 in
set_option maxHeartbeats 1000000 in
theorem made_far (a : Nat) (ha : a ≤ 100) (w : World) (p : Option Addr) (n c : Nat) (ls : List Dv) (h : RdQ w p n c ls) (hn : n ≤ 150) (hs : Small ls) :
    Calls Try.prog 22 #[.slice p n c] w fun e w' => e = .returned (.pointer (some ⟨w.heap.size, 0, none⟩)) ∧ (∃ own d, DA w' w.heap.size own a w.heap.size d (playN (pd0 2097152) ls n) ∧ ∀ k, k < w.heap.size → own k = farM) ∧ Below w.heap.size w w' := by
  have hN := New_ok w a 2097152 (by decide) (by decide)
  go_enter Try.func22, Try.ntmps22
  go_wp2_with fail
  refine hN.mono ?_
  rintro e w1 ⟨rfl, hA1, hb1⟩
  have hA0 : DA w1 w.heap.size (fun k => if k < w.heap.size then farM else 0) a w.heap.size (dk0 2097152) (pd0 2097152) := hA1.reown (fun k e => by
    unfold mark at e
    omega) (if_neg (Nat.lt_irrefl _)) (fun x e => by cases e) (fun k hk => if_neg (by have := hb1.size; omega))
  go_wp2_with fail
  go_loopw [13] (fun i wr => ∃ (k : Nat) (own : Nat → Nat) (d : Dk), k ≤ n ∧ i = .int .i64 k ∧ DA wr w.heap.size own a w.heap.size d (playN (pd0 2097152) ls k) ∧ (∀ j, j < w.heap.size → own j = farM) ∧ Below w.heap.size w wr) (fun i _ => n - (intOf i).toNat)
  case atStart => exact ⟨0, _, _, Nat.zero_le _, rfl, hA0, fun _ hj => if_pos hj, hb1⟩
  case round =>
    clear hA1 hA0 hb1 hN
    obtain ⟨k, own, d, hk, rfl, hA, ho, hb⟩ := hrel
    by_cases hkn : k < n
    · have hki : (k : Int) < (n : Int) := by omega
      have hok := playN_ok h hs (pd0_ok (r := 2097152) (by decide) (by decide)) k hk
      have hby := bytesN_le hs k (by rw [h.len]; exact hk)
      obtain ⟨b, o, rfl, hc⟩ := h.cells (by omega)
      have hck := hc k hkn
      have hblt := World.block_lt_of_cell? _ _ hck.c0
      have hck2 := hck.below hb hblt
      have hrd0 := h.rd k hkn
      have hrd : Dv.rd wr (ls.getD k .z0) := ⟨hrd0.b.low hb (Nat.le_refl _), hrd0.k.low hb (Nat.le_refl _), hrd0.n, hrd0.y⟩
      have hsm := hs k (by rw [h.len]; exact hkn)
      have HS : Hid (playN (pd0 2097152) ls (k + 1) = ((playN (pd0 2097152) ls k).step (ls.getD k .z0).q).1) := rfl
      clear hc hck h hs
      generalize ls.getD k .z0 = x at *
      obtain ⟨op, i, m, bq, bl, bc, kq, kl, kc, xb, xk⟩ := x
      obtain ⟨c0, c1, c2, c3, c4⟩ := hck2
      obtain ⟨rb, rk, _, _⟩ := hrd
      dsimp only at *
      have hbD : Below wr.heap.size wr (wr.alloc (.cells #[.int .i64 op, .int .i64 i, .int .i64 m, .slice bq bl bc, .slice kq kl kc] 35)) := (Below.refl _ _).alloc (Nat.le_refl _) _
      have hgs := hb.size
      have hD := does_any _ w.heap.size own a w.heap.size d _ _ (hA.below hbD) hok (by omega) (Nat.le_trans hgs hbD.size) op i m bq bl bc kq kl kc xb xk (rb.below' hbD) (rk.below' hbD)
        (fun x e h0 => Nat.ne_of_lt (hrd0.b.blk e h0)) (fun x e h0 => Nat.ne_of_lt (hrd0.k.blk e h0)) hsm.1 hsm.2
      clear rb rk hA hrd0
      go_wp2_with fail
      refine hD.mono ?_
      rintro e w2 ⟨rfl, hAf⟩
      obtain ⟨own2, d2, hA2, ho2, hc2⟩ := hAf.before hbD
      have hB2 := hb.trans (hc2.mine_far ha hgs (Nat.le_refl _) ho)
      clear hD hAf
      go_wp2_with fail
      go_roundw
      case rel => exact ⟨k + 1, own2, d2, by omega, by go_num, by rw [HS.out]; exact hA2, fun j hj => (ho2 j (by omega)).trans (ho j hj), hB2⟩
      case measure => simp [intOf]; omega
    · obtain rfl : k = n := by omega
      clear h hs
      go_wp2_with fail
      go_ret
      exact ⟨rfl, ⟨own, d, hA, ho⟩, hb⟩

/-- A disk apart from all that was there, over changes elsewhere: ex is how much there was when it was last touched. -/
theorem DA.far {S : Nat → Prop} {w w' : World} {B ex : Nat} {own : Nat → Nat} {a g : Nat} {d : Dk} {m : PD} (ha : a ≤ 100) (h : DA w B own a g d m) (hlow : ∀ k, k < B → own k = farM) (hhigh : ∀ k, ex ≤ k → own k = 0) (hgx : g < ex) (hkx : ∀ x, d.kp = some x → x.block < ex) (hc : Ch S w w') (hS : ∀ k, B ≤ k → k < ex → ¬ S k) (hex : ex ≤ w.heap.size) : DA w' B own a g d m := by
  have hb : ∀ k, own k = 0 → B ≤ k := fun k e => Nat.le_of_not_lt fun hlt => by
    rw [hlow k hlt] at e
    cases e
  refine h.ch hc (hS g h.bg hgx) (fun i k hi e => hS k (Nat.le_of_not_lt fun hlt => ?_) (Nat.lt_of_not_le fun hge => ?_)) (fun x e => hS _ (hb _ (h.ok x e).1) (hkx x e)) (fun _ _ => rfl) (fun k hk => hhigh k (Nat.le_trans hex (Nat.le_trans hc.size hk)))
  · rw [hlow k hlt] at e
    unfold mark farM at e
    omega
  · rw [hhigh k hge] at e
    exact mark_pos a i e.symm

theorem getD_left (a b : List Dv) {k : Nat} (h : k < a.length) : (a ++ b).getD k .z0 = a.getD k .z0 := by
  rw [List.getD_eq_getElem?_getD, List.getD_eq_getElem?_getD, List.getElem?_append_left h]

theorem getD_right (a b : List Dv) {k : Nat} (h : a.length ≤ k) : (a ++ b).getD k .z0 = b.getD (k - a.length) .z0 := by
  rw [List.getD_eq_getElem?_getD, List.getD_eq_getElem?_getD, List.getElem?_append_right h]

/-- Calls one list behind the other. -/
theorem playN_app (m : PD) (a b : List Dv) : ∀ j, j ≤ b.length → playN m (a ++ b) (a.length + j) = playN (playN m a a.length) b j
  | 0, _ => by
    have h : ∀ k, k ≤ a.length → playN m (a ++ b) k = playN m a k := by
      intro k
      induction k with
      | zero => intro _; rfl
      | succ k ih =>
        intro hk
        show ((playN m (a ++ b) k).step ((a ++ b).getD k .z0).q).1 = ((playN m a k).step (a.getD k .z0).q).1
        rw [ih (by omega), getD_left _ _ (by omega)]
    exact h _ (Nat.le_refl _)
  | j + 1, hj => by
    show ((playN m (a ++ b) (a.length + j)).step ((a ++ b).getD (a.length + j) .z0).q).1 = ((playN (playN m a a.length) b j).step (b.getD j .z0).q).1
    rw [playN_app m a b j (by omega), getD_right _ _ (by omega), Nat.add_sub_cancel_left]

theorem Small.app {a b : List Dv} (ha : Small a) (hb : Small b) : Small (a ++ b) := fun j hj => by
  by_cases h : j < a.length
  · rw [getD_left _ _ h]; exact ha j h
  · rw [getD_right _ _ (by omega)]; exact hb _ (by rw [List.length_append] at hj; omega)

theorem rd_app {w : World} {a b : List Dv} (ha : ∀ j, j < a.length → (a.getD j .z0).rd w) (hb : ∀ j, j < b.length → (b.getD j .z0).rd w) : ∀ j, j < (a ++ b).length → ((a ++ b).getD j .z0).rd w := fun j hj => by
  by_cases h : j < a.length
  · rw [getD_left _ _ h]; exact ha j h
  · rw [getD_right _ _ (by omega)]; exact hb _ (by rw [List.length_append] at hj; omega)

end Go.Proofs.Ytcgpdaalehgjdaa.M
