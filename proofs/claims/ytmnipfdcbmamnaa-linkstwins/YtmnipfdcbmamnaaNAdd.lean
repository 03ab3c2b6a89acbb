/-
  Own text: contracts of links' New, find, add.
-/
import Derived.Test.YtmnipfdcbmamnaaNNet
import Derived.Carry
import Derived.ArgAppend
import Derived.Deep.DeepAppendRoom
namespace Go.Proofs.Ytmnipfdcbmamnaa.M
open Go.ChangeShapes Go.WideShapes Go.ChangeAt Go.RowKit Go.ChangeMaps Go.MapKept Go.Maps

variable {Z : Nat → Prop}

theorem wp_value {P : Program} {op : Oper} {a : Act} {w : World} {K : Act → World → Prop} {Q : Exit → Act → World → Prop} (v : Value) (w' : World) (he : (execOp a.eval op).run P w = .ok (.value v) w') (h : K (a.put op.dst v) w') : op.wp P a w K Q := by
  unfold Oper.wp
  rw [he]
  exact h

theorem wp_app {P : Program} {op : Oper} {a : Act} {w : World} {K : Act → World → Prop} {Q : Exit → Act → World → Prop} (s x : Operand) (t : TypeId) (hop : op.op = .call { callee := .builtin .append, args := #[s, x], argTypes := #[t, t] }) (u v : Value) (hs : a.eval s = u) (hx : a.eval x = v) (y : Value) (w' : World)
    (hrun : (Builtin.append_ #[t, t] op.type #[u, v]).run P w = .ok y w') (h : K (a.put op.dst y) w') : op.wp P a w K Q := by
  unfold Oper.wp
  simp [execOp, hop, resolve, invoke, builtin, hs, hx, hrun, Result.andThen]
  exact h

theorem wp_unit {P : Program} {op : Oper} {a : Act} {w : World} {K : Act → World → Prop} {Q : Exit → Act → World → Prop} (w' : World) (he : (execOp a.eval op).run P w = .ok .skip w') (h : K (a.put op.dst undef) w') : op.wp P a w K Q := by
  unfold Oper.wp
  rw [he]
  exact h

def Bl (w W : World) : Prop := Below w.heap.size w W

theorem Bl.stays (w : World) : Stays (Bl w) := fun _ _ h hb => h.trans (hb.mono h.size)

theorem Bl.out' {w W : World} (h : Bl w W) : Below w.heap.size w W := h

theorem sizeLk : (Try.prog.info? 33).map (·.size) = some 2 := by kernel_rfl

theorem At.rangeB {t : TypeId} {w W : World} {b : Nat} {x y : Value} (h : At t w b #[x, y]) (hb : Below w.heap.size w W) : W.rangeAt b 0 [x, y] := by
  intro j v hj
  have h' := h.below hb
  rw [Nat.zero_add, h'.cell j]
  match j, hj with
  | 0, hj => cases hj; rfl
  | 1, hj => cases hj; rfl

theorem Ex.setB (w : World) (b : Nat) (o : Obj) : Ex b w (setBlock w b o) := ⟨rfl, rfl, rfl, by simp [setBlock], fun k _ hk => heap_setBlock_ne w b k o hk⟩

set_option maxRecDepth 20000 in
theorem New_any (w : World) (hZ : ∀ k, Z k → k < w.heap.size) :
    Calls Try.prog 8 #[] w fun o w' => ∃ g b, o = .returned (.pointer (some ⟨g, 0, none⟩)) ∧ NB Z w' w.heap.size g b 0 0 0 (fun _ _ => []) (fun _ _ => .slice none 0 0) ∧ Below w.heap.size w w' := by
  have b0 := below_alloc w (.map #[] 0)
  have b1 := below_alloc (w.alloc (.map #[] 0)) (.cells #[.map (some w.heap.size), .int .u64 0, .int .i64 0] 68)
  have hA := At.moved (g2 := w.heap.size + 1) (by simp) (At.new 68 (w.alloc (.map #[] 0)) #[.map (some w.heap.size), .int .u64 0, .int .i64 0])
  have hM := (MapIs.made (P := Try.prog) (k := 33) w).kept (b1.block w.heap.size (by simp))
  have hf : (fL fun _ _ => nv [] (.slice none 0 0)) = fun _ => none := by
    funext v
    unfold fL
    cases v with
    | agg cs => dsimp only; split <;> rfl
    | _ => rfl
  have hN : NB Z ((w.alloc (.map #[] 0)).alloc (.cells #[.map (some w.heap.size), .int .u64 0, .int .i64 0] 68)) w.heap.size (w.heap.size + 1) w.heap.size 0 0 0 (fun _ _ => []) (fun _ _ => .slice none 0 0) :=
    ⟨hA, by rw [hf]; exact hM, fun _ _ h => absurd rfl h, fun _ _ _ _ h => absurd rfl h, by omega, fun _ _ h => absurd rfl h, ⟨by omega, Nat.le_refl _⟩, fun k hk => by have := hZ k hk; simp; omega, ⟨fun hk => by have := hZ _ hk; omega, fun hk => by have := hZ _ hk; omega⟩, fun _ _ h => absurd rfl h⟩
  have hB := b0.trans (b1.mono b0.size)
  have hmk := run_makeMap (P := Try.prog) 66 w
  clear hA hM b0 b1 hf
  go_enter Try.func8, Try.ntmps8
  go_wp2_with fail
  go_ret
  exact ⟨_, _, rfl, hN, hB⟩

/-- What find answers. -/
def findR (l : List ByteArray) (i : Int) : ByteArray × Int := if 0 ≤ i ∧ i < l.length then (l.getD i.toNat ByteArray.empty, 0) else (ByteArray.empty, 40)

set_option maxRecDepth 20000 in
set_option maxHeartbeats 2000000 in
theorem nfind_any {w : World} {B g b n side : Nat} {lost : Int} {N : Int → Int → List ByteArray} {R : Int → Int → Value} (h : NB Z w B g b n side lost N R) {x y : Int} (hx : Wf x) (hy : Wf y) (i : Int) :
    Calls Try.prog 38 #[.pointer (some ⟨g, 0, none⟩), .agg #[.int .i64 x, .int .i64 y], .int .i64 i] w fun o w' => o = .returned (.tuple #[.string (findR (N x y) i).1, .int .i64 (findR (N x y) i).2]) ∧ Below w.heap.size w w' := by
  have hba := below_alloc w (.cells #[.int .i64 x, .int .i64 y] 33)
  have hA := At.new 33 w #[.int .i64 x, .int .i64 y]
  have hN := h.below hba
  have hm := nmade_yes hN
  obtain ⟨q0, q1, q2⟩ := hN.blk.three
  obtain ⟨a0, a1⟩ := hA.two
  obtain ⟨p, c, hs, hown⟩ := hN.sl x y
  have hlk := fun t => NB.look (hN.below (below_drewN (Below.refl _ _) t)) hx hy
  unfold lkV at hlk
  rw [hs] at hlk hown
  by_cases hi : 0 ≤ i ∧ i < (N x y).length
  · obtain ⟨k, rfl⟩ := Int.eq_ofNat_of_zero_le hi.1
    have hkl : k < (N x y).length := by omega
    have hR : findR (N x y) (k : Int) = ((N x y).getD k ByteArray.empty, 0) := if_pos hi
    obtain ⟨r, cap, rfl, rfl⟩ : ∃ r cap, p = some ⟨r, 0, none⟩ ∧ c = cap := by
      rcases hown.2 with ⟨_, h0⟩ | ⟨g', cap, cur, hv, _⟩
      · omega
      · injection hv with e1 _ e3
        exact ⟨g', cap, e1, e3⟩
    have hcl := World.ownsRow.cells hown rfl k (.string ((N x y).getD k ByteArray.empty)) (by rw [List.getElem?_map, List.getElem?_eq_getElem hkl, List.getD_eq_getElem?_getD, List.getElem?_eq_getElem hkl]; rfl)
    rw [Addr.add_lit, Nat.zero_add] at hcl
    have hd : decide ((k : Int) < 0) = false := decide_eq_false (by omega)
    have hd2 : decide (((N x y).length : Int) ≤ (k : Int)) = false := decide_eq_false (by omega)
    have hki : (k : Int) < ((N x y).length : Int) := by omega
    rw [hR]
    generalize (N x y).getD k ByteArray.empty = m at *
    clear h hN hs hA hown hR hi
    generalize (N x y).length = L at *
    go_enter Try.func38, Try.ntmps38
    go_wp2_with fail
    refine hm.mono ?_
    rintro o w1 ⟨rfl, hw⟩
    subst hw
    clear hm
    go_wp2_with fail
    go_quiet (fail)
    go_wp2_with fail
    go_ret2
    exact ⟨rfl, below_drewN hba _⟩
  · have hR : findR (N x y) i = (ByteArray.empty, 40) := if_neg hi
    rw [hR]
    clear h hN hs hA hown hR
    generalize (N x y).length = L at *
    by_cases h0 : i < 0
    · have hd : decide (i < 0) = true := decide_eq_true h0
      clear hi h0
      go_enter Try.func38, Try.ntmps38
      go_wp2_with fail
      refine hm.mono ?_
      rintro o w1 ⟨rfl, hw⟩
      subst hw
      clear hm
      go_wp2_with fail
      go_quiet (fail)
      go_wp2_with fail
      go_ret2
      exact ⟨rfl, below_drewN hba _⟩
    · have hd : decide (i < 0) = false := decide_eq_false h0
      have hd2 : decide ((L : Int) ≤ i) = true := decide_eq_true (by omega)
      clear hi h0
      go_enter Try.func38, Try.ntmps38
      go_wp2_with fail
      refine hm.mono ?_
      rintro o w1 ⟨rfl, hw⟩
      subst hw
      clear hm
      go_wp2_with fail
      go_quiet (fail)
      go_wp2_with fail
      go_ret2
      exact ⟨rfl, below_drewN hba _⟩

set_option maxRecDepth 20000 in
set_option maxHeartbeats 2000000 in
theorem nadd_no {w : World} {B g b n side : Nat} {lost : Int} {N : Int → Int → List ByteArray} {R : Int → Int → Value} (h : NB Z w B g b n side lost N R) {x y : Int} (hx : Wf x) (hy : Wf y) (s : ByteArray) (hf : 8 ≤ (N x y).length) :
    Calls Try.prog 47 #[.pointer (some ⟨g, 0, none⟩), .agg #[.int .i64 x, .int .i64 y], .string s] w fun o w' => o = .returned (.int .i64 7) ∧ Below w.heap.size w w' := by
  have hba := below_alloc w (.cells #[.int .i64 x, .int .i64 y] 33)
  have hA := At.new 33 w #[.int .i64 x, .int .i64 y]
  have hN := h.below hba
  obtain ⟨q0, q1, q2⟩ := hN.blk.three
  obtain ⟨a0, a1⟩ := hA.two
  obtain ⟨p, c, hs, hown⟩ := hN.sl x y
  have hlk := fun t => NB.look (hN.below (below_drewN (Below.refl _ _) t)) hx hy
  unfold lkV at hlk
  rw [hs] at hlk
  clear h hN hs hA hown
  generalize (N x y).length = L at *
  have hd : decide ((8 : Int) ≤ (L : Int)) = true := decide_eq_true (by omega)
  go_enter Try.func47, Try.ntmps47
  go_wp2_with fail
  go_quiet (fail)
  go_wp2_with fail
  go_ret
  exact ⟨rfl, below_drewN hba _⟩

/-- A link's messages, changed. -/
def upN (N : Int → Int → List ByteArray) (x y : Int) (l : List ByteArray) : Int → Int → List ByteArray := fun a c => if a = x ∧ c = y then l else N a c

def upR (R : Int → Int → Value) (x y : Int) (v : Value) : Int → Int → Value := fun a c => if a = x ∧ c = y then v else R a c

theorem NZ.up {w : World} {g b : Nat} {N : Int → Int → List ByteArray} {R : Int → Int → Value} (h : NZ Z w g b N R) (x y : Int) (l : List ByteArray) (v : Value) (hv : ∀ k, v.ownBlock = some k → ¬ Z k) : NZ Z w g b (upN N x y l) (upR R x y v) := by
  refine ⟨h.1, h.2.1, fun a c hn k hk => ?_⟩
  by_cases hac : a = x ∧ c = y
  · rw [show upR R x y v a c = v from if_pos hac] at hk
    exact hv k hk
  · rw [show upR R x y v a c = R a c from if_neg hac] at hk
    rw [show upN N x y l a c = N a c from if_neg hac] at hn
    exact h.2.2 a c hn k hk

theorem NB.slne {w : World} {B g b n side : Nat} {lost : Int} {N : Int → Int → List ByteArray} {R : Int → Int → Value} (h : NB Z w B g b n side lost N R) (x y : Int) : (slV (N x y) (R x y)).ownBlock ≠ some g ∧ (slV (N x y) (R x y)).ownBlock ≠ some b := by
  match hn : N x y with
  | [] => exact ⟨by simp [slV, nv, Value.ownBlock], by simp [slV, nv, Value.ownBlock]⟩
  | a :: l => exact h.off x y (by rw [hn]; exact List.cons_ne_nil _ _)

theorem infoS : (Try.prog.info? 9).map (fun i => (i.zero, i.size, i.bytes)) = some (some (.string { data := #[] }), 1, 16) := by kernel_rfl

/-- What an append of one message does: in place, or into new memory. -/
theorem run_appS (w : World) (B : Nat) (ty : TypeId) (v : Value) (l : List ByteArray) (ho : w.ownsRow B 9 1 v l.length (l.map .string)) (gs d : Nat) (s : ByteArray) (cs : w.cell? ⟨gs, 0, none⟩ = some (.string s)) (hl : l.length ≤ 1000) (hB : B ≤ w.heap.size) :
    ∃ r' cap w', (Builtin.append_ #[75, 75] ty #[v, .slice (some ⟨gs, 0, none⟩) 1 d]).run Try.prog w = .ok (.slice (some ⟨r', 0, none⟩) (l.length + 1) cap) w' ∧
      w'.ownsRow B 9 1 (.slice (some ⟨r', 0, none⟩) (l.length + 1) cap) (l.length + 1) ((l ++ [s]).map .string) ∧ ((v.ownBlock = some r' ∧ w.grownBy w' (some r')) ∨ (w.heap.size ≤ r' ∧ w.grownBy w' none)) := by
  obtain ⟨i0, hi0, hz0, hz1, hz2⟩ := info_parts infoS
  have hnews : ∀ j u, [Value.string s][j]? = some u → w.cell? ((⟨gs, 0, none⟩ : Addr).add j) = some u := fun j u hj => by
    rw [Addr.add_lit, Nat.zero_add]
    match j, hj with
    | 0, hj => cases hj; exact cs
  have h1 : ∀ u ∈ [Value.string s], u.oneCell' = true := fun u hu => by rw [List.mem_singleton.1 hu]; rfl
  have h63 : l.length + 1 ≤ maxLen := by unfold maxLen; omega
  have hml : (l ++ [s]).map Value.string = l.map .string ++ [.string s] := by simp
  rw [hml]
  rcases ho.2 with ⟨hv, h0⟩ | ⟨g, cap, cur, hv, hg, hh, hc, hcm, hcs, htk⟩
  · subst hv
    have hl0 : l = [] := List.length_eq_zero_iff.1 h0
    subst hl0
    obtain ⟨v', w', g1, g2, g3, _⟩ := run_append_own (P := Try.prog) w w.heap.size 75 ty 9 i0 _ 1 16 Try.underlying75 hi0 hz0 hz1 hz2 rfl (by decide) (.slice none 0 0) 0 [] ⟨rfl, Or.inl ⟨rfl, rfl⟩⟩ ⟨gs, 0, none⟩ 1 d [.string s] rfl hnews h1 (by unfold maxLen; omega) (by omega) (Nat.le_refl _)
    rcases g2.2 with ⟨_, h4⟩ | ⟨g', cap, cur, rfl, hb, rest⟩
    · omega
    · exact ⟨g', cap, w', g1, ⟨g2.1, Or.inr ⟨g', cap, cur, rfl, Nat.le_trans hB hb, rest⟩⟩, Or.inr ⟨hb, g3⟩⟩
  · subst hv
    rcases Nat.lt_or_ge cap (l.length + 1) with hlt | hge
    · obtain ⟨v', w', g1, g2, g3⟩ := run_append_arg_grows (P := Try.prog) w 75 ty 9 i0 _ 1 16 Try.underlying75 hi0 hz0 hz1 hz2 rfl (by decide) ⟨g, 0, none⟩ l.length cap (l.map .string) ho.1 (World.ownsRow.cells ho rfl) ⟨gs, 0, none⟩ 1 d [.string s] rfl hnews hlt h63 (by omega)
      rcases g2.2 with ⟨_, h4⟩ | ⟨g', cap, cur, rfl, hb, rest⟩
      · omega
      · exact ⟨g', cap, w', g1, ⟨g2.1, Or.inr ⟨g', cap, cur, rfl, Nat.le_trans hB hb, rest⟩⟩, Or.inr ⟨hb, g3⟩⟩
    · obtain ⟨w', g1, g2, g3⟩ := run_append_own_spare (P := Try.prog) w B 75 ty 9 i0 1 Try.underlying75 hi0 hz1 g l.length cap _ ho ⟨gs, 0, none⟩ 1 d [.string s] rfl hnews h1 hge
      exact ⟨g, cap, w', g1, g2, Or.inl ⟨rfl, g3⟩⟩

theorem wp_entryStore {P : Program} {op : Oper} {a : Act} {w : World} {K : Act → World → Prop} {Q : Exit → Act → World → Prop} (t : TypeId) (m st v : Operand) (hop : op.op = .entryStore t m st v) (u1 u2 u3 : Value) (hm : a.eval m = u1) (hs : a.eval st = u2) (hv : a.eval v = u3) (w' : World)
    (hrun : (Instr.entryStore t u1 u2 u3).run P w = .ok () w') (h : K (a.put op.dst undef) w') : op.wp P a w K Q := by
  unfold Oper.wp
  simp [execOp, hop, hm, hs, hv, hrun, Result.andThen]
  exact h

/-- Nothing below B is another one, nor what is neither the Net, nor its map, nor a row of texts. -/
structure BelF (Z : Nat → Prop) (B g b : Nat) (w w' : World) : Prop where
  bel : Below B w w'
  fr : ∀ k, k < w.heap.size → k ≠ g → k ≠ b → (∀ cs f, w.heap[k]? ≠ some (.cells cs 9 f)) → w'.heap[k]? = w.heap[k]?
  zk : ∀ k, Z k → k < w.heap.size → w'.heap[k]? = w.heap[k]?

theorem BelF.sz {B g b : Nat} {w w' : World} (h : BelF Z B g b w w') : w.heap.size ≤ w'.heap.size := h.bel.size

theorem BelF.ofB {B g b : Nat} {w w' : World} (h : Below w.heap.size w w') (hB : B ≤ w.heap.size) : BelF Z B g b w w' := ⟨h.mono hB, fun k hk _ _ _ => h.block k hk, fun k _ hk => h.block k hk⟩

theorem BelF.trans {B g b : Nat} {u v w : World} (h : BelF Z B g b u v) (k : BelF Z B g b v w) : BelF Z B g b u w :=
  ⟨h.bel.trans k.bel, fun i hi hg hb hs => by
    have h1 := h.fr i hi hg hb hs
    rw [k.fr i (Nat.lt_of_lt_of_le hi h.sz) hg hb (fun cs f => by rw [h1]; exact hs cs f), h1], fun i hz hi => (k.zk i hz (Nat.lt_of_lt_of_le hi h.sz)).trans (h.zk i hz hi)⟩

theorem BelF.bl {B g b : Nat} {u v w : World} (h : BelF Z B g b u v) (k : Below v.heap.size v w) (hB : B ≤ v.heap.size) : BelF Z B g b u w := h.trans (BelF.ofB k hB)

theorem BelF.exb {B g b : Nat} {w w' : World} (h : Ex b w w') (hB : B ≤ b) (hb : b < w.heap.size) (hz : ¬ Z b) : BelF Z B g b w w' := ⟨h.below hB hb, fun k hk _ hne _ => h.block k hk hne, fun k hk hl => h.block k hl (fun e => hz (e ▸ hk))⟩

theorem BelF.exg {B g b : Nat} {w w' : World} (h : Ex g w w') (hB : B ≤ g) (hb : g < w.heap.size) (hz : ¬ Z g) : BelF Z B g b w w' := ⟨h.below hB hb, fun k hk hne _ _ => h.block k hk hne, fun k hk hl => h.block k hl (fun e => hz (e ▸ hk))⟩

theorem BelF.exr {B g b r : Nat} {w w' : World} {cs : Array Value} {f : Nat × Nat} (h : Ex r w w') (hB : B ≤ r) (hr : w.heap[r]? = some (.cells cs 9 f)) (hz : ¬ Z r) : BelF Z B g b w w' :=
  ⟨h.below hB (Array.getElem?_eq_some_iff.1 hr).1, fun k hk _ _ hs => h.block k hk (fun e => hs cs f (by rw [e]; exact hr)), fun k hk hl => h.block k hl (fun e => hz (e ▸ hk))⟩

theorem BelF.at {B g b x : Nat} {w w' : World} {t : TypeId} {cs : Array Value} (h : BelF Z B g b w w') (k : At t w x cs) (hg : x ≠ g) (hb : x ≠ b) (ht : t ≠ 9) : At t w' x cs :=
  (h.fr x k.lt hg hb (fun cs' f e => by
    have k' : w.heap[x]? = some (.cells cs t (0, 0)) := k
    rw [k'] at e
    injection e with e
    injection e with _ e2 _
    exact ht e2)).trans k

/-- A Net while a link's entry is out: ahead of the append. -/
structure Mid (Z : Nat → Prop) (w : World) (B g b gx gs : Nat) (o1 : Obj) (side : Nat) (lost : Int) (N : Int → Int → List ByteArray) (R : Int → Int → Value) (x y : Int) (s : ByteArray) (W : World) : Prop where
  bb : W.heap[b]? = some o1
  str : At 9 W gs #[.string s]
  net : At 68 W g #[.map (some b), .int .u64 side, .int .i64 lost]
  lk : At 33 W gx #[.int .i64 x, .int .i64 y]
  rows : ∀ a c, N a c ≠ [] → W.ownsRow B 9 1 (R a c) (N a c).length ((N a c).map .string)
  own : W.ownsRow B 9 1 (slV (N x y) (R x y)) (N x y).length ((N x y).map .string)
  bel : BelF Z B g b w W
  sz : B ≤ W.heap.size
  zz : NZ Z W g b N R

theorem Mid.stays (w : World) (B g b gx gs : Nat) (o1 : Obj) (side : Nat) (lost : Int) (N : Int → Int → List ByteArray) (R : Int → Int → Value) (x y : Int) (s : ByteArray) : Stays (Mid Z w B g b gx gs o1 side lost N R x y s) := fun _ _ h hb =>
  ⟨(hb.block b (Array.getElem?_eq_some_iff.1 h.bb).1).trans h.bb, h.str.below hb, h.net.below hb, h.lk.below hb, fun a c hn => ownsRow_below (h.rows a c hn) hb, ownsRow_below h.own hb, h.bel.bl hb h.sz, Nat.le_trans h.sz hb.size, h.zz.mono hb.size⟩

/-- .. behind it. -/
structure Mid2 (Z : Nat → Prop) (w : World) (B g b gx : Nat) (o1 : Obj) (side : Nat) (lost : Int) (N : Int → Int → List ByteArray) (R : Int → Int → Value) (x y : Int) (s : ByteArray) (r' cap : Nat) (W : World) : Prop where
  bb : W.heap[b]? = some o1
  net : At 68 W g #[.map (some b), .int .u64 side, .int .i64 lost]
  lk : At 33 W gx #[.int .i64 x, .int .i64 y]
  rows : ∀ a c, N a c ≠ [] → ¬ (a = x ∧ c = y) → W.ownsRow B 9 1 (R a c) (N a c).length ((N a c).map .string)
  own : W.ownsRow B 9 1 (.slice (some ⟨r', 0, none⟩) ((N x y).length + 1) cap) ((N x y).length + 1) ((N x y ++ [s]).map .string)
  apart : ∀ a c a' c', N a c ≠ [] → N a' c' ≠ [] → (R a c).ownBlock = (R a' c').ownBlock → a = a' ∧ c = c'
  fresh : ∀ a c, N a c ≠ [] → ¬ (a = x ∧ c = y) → (R a c).ownBlock ≠ some r'
  off : ∀ a c, N a c ≠ [] → (R a c).ownBlock ≠ some g ∧ (R a c).ownBlock ≠ some b
  ng : r' ≠ g ∧ r' ≠ b
  bel : BelF Z B g b w W
  sz : B ≤ W.heap.size
  zz : NZ Z W g b N R ∧ ¬ Z r'

theorem Mid2.stays (w : World) (B g b gx : Nat) (o1 : Obj) (side : Nat) (lost : Int) (N : Int → Int → List ByteArray) (R : Int → Int → Value) (x y : Int) (s : ByteArray) (r' cap : Nat) : Stays (Mid2 Z w B g b gx o1 side lost N R x y s r' cap) := fun _ _ h hb =>
  ⟨(hb.block b (Array.getElem?_eq_some_iff.1 h.bb).1).trans h.bb, h.net.below hb, h.lk.below hb, fun a c hn hne => ownsRow_below (h.rows a c hn hne) hb, ownsRow_below h.own hb, h.apart, h.fresh, h.off, h.ng, h.bel.bl hb h.sz, Nat.le_trans h.sz hb.size, h.zz.1.mono hb.size, h.zz.2⟩

theorem Mid2.of {w V V2 : World} {B g b gx gs : Nat} {o1 : Obj} {side : Nat} {lost : Int} {N : Int → Int → List ByteArray} {R : Int → Int → Value} {x y : Int} {s : ByteArray} {r' cap : Nat} (h : Mid Z w B g b gx gs o1 side lost N R x y s V)
    (hg : ((slV (N x y) (R x y)).ownBlock = some r' ∧ V.grownBy V2 (some r')) ∨ (V.heap.size ≤ r' ∧ V.grownBy V2 none))
    (ho : V2.ownsRow B 9 1 (.slice (some ⟨r', 0, none⟩) ((N x y).length + 1) cap) ((N x y).length + 1) ((N x y ++ [s]).map .string))
    (hap : ∀ a c a' c', N a c ≠ [] → N a' c' ≠ [] → (R a c).ownBlock = (R a' c').ownBlock → a = a' ∧ c = c') (hoff : ∀ a c, N a c ≠ [] → (R a c).ownBlock ≠ some g ∧ (R a c).ownBlock ≠ some b)
    (hsn : (slV (N x y) (R x y)).ownBlock ≠ some g ∧ (slV (N x y) (R x y)).ownBlock ≠ some b) (_h1 : gs ≠ b) (_h2 : gx ≠ g) (_h3 : gx ≠ b) (_h4 : b ≠ g) (_h5 : B ≤ g ∧ B ≤ b) (_h6 : gs ≠ g) :
    Mid2 Z w B g b gx o1 side lost N R x y s r' cap V2 := by
  have hbl := (Array.getElem?_eq_some_iff.1 h.bb).1
  have hgl := h.net.lt
  have hBr : B ≤ r' := (World.ownsRow.lt ho r' rfl).1
  have hfr : ∀ a c, N a c ≠ [] → ¬ (a = x ∧ c = y) → (R a c).ownBlock ≠ some r' := by
    intro a c hn hne e
    rcases hg with ⟨h1, _⟩ | ⟨h1, _⟩
    · match hN : N x y with
      | [] => rw [hN] at h1; simp [slV, nv, Value.ownBlock] at h1
      | m :: l =>
        have e2 : slV (N x y) (R x y) = R x y := by rw [hN]; rfl
        rw [e2] at h1
        exact hne (hap a c x y hn (by rw [hN]; exact List.cons_ne_nil _ _) (e.trans h1.symm))
    · have := (World.ownsRow.lt (h.rows a c hn) r' e).2
      omega
  have hng : r' ≠ g ∧ r' ≠ b := by
    rcases hg with ⟨h1, _⟩ | ⟨h1, _⟩
    · exact ⟨fun e => hsn.1 (by rw [h1, e]), fun e => hsn.2 (by rw [h1, e])⟩
    · exact ⟨by omega, by omega⟩
  have hzr : ¬ Z r' := by
    rcases hg with ⟨h1, _⟩ | ⟨h1, _⟩
    · match hN : N x y with
      | [] => rw [hN] at h1; simp [slV, nv, Value.ownBlock] at h1
      | m :: l =>
        have e2 : slV (N x y) (R x y) = R x y := by rw [hN]; rfl
        rw [e2] at h1
        exact h.zz.2.2 x y (by rw [hN]; exact List.cons_ne_nil _ _) r' h1
    · intro hz
      have := h.zz.1 r' hz
      omega
  have hblk : ∀ k, k < V.heap.size → k ≠ r' → V2.heap[k]? = V.heap[k]? := by
    intro k hk hne
    rcases hg with ⟨_, h1⟩ | ⟨_, h1⟩
    · exact h1.block k hk (fun e => hne (Option.some.inj e))
    · exact h1.block k hk (fun e => by cases e)
  have hrows : ∀ a c, N a c ≠ [] → ¬ (a = x ∧ c = y) → V2.ownsRow B 9 1 (R a c) (N a c).length ((N a c).map .string) := by
    intro a c hn hne
    rcases hg with ⟨_, h1⟩ | ⟨_, h1⟩
    · exact (h.rows a c hn).kept h1 (Or.inr (hfr a c hn hne))
    · refine (h.rows a c hn).kept h1 ?_
      cases (R a c).ownBlock with
      | none => exact Or.inl rfl
      | some k => exact Or.inr (fun e => by cases e)
  have hrx : r' ≠ gx := by
    rcases hg with ⟨h1, _⟩ | ⟨h1, _⟩
    · rcases h.own.2 with ⟨h2, _⟩ | ⟨g', cap', cur, h2, _, h3, _⟩
      · rw [h2] at h1; cases h1
      · rw [h2] at h1
        injection h1 with h1
        intro e
        have h4 : V.heap[gx]? = some (.cells #[.int .i64 x, .int .i64 y] 33 (0, 0)) := h.lk
        have e2 : g' = gx := by rw [← e, ← h1]
        rw [e2, h4] at h3
        injection h3 with h3
        injection h3 with _ h5 _
        exact absurd h5 (by decide)
    · have := h.lk.lt
      omega
  have hrs : ∀ k, k < V.heap.size → (∀ cs f, V.heap[k]? ≠ some (.cells cs 9 f)) → k ≠ r' := by
    intro k hk hs e
    rcases hg with ⟨h1, _⟩ | ⟨h1, _⟩
    · rcases h.own.2 with ⟨h2, _⟩ | ⟨g', cap', cur, h2, _, h3, _⟩
      · rw [h2] at h1; cases h1
      · rw [h2] at h1
        injection h1 with h1
        have e2 : g' = k := by rw [e, ← h1]
        rw [e2] at h3
        exact hs _ _ h3
    · omega
  have hos : V2.os = V.os ∧ V2.tape = V.tape ∧ V2.output = V.output ∧ V.heap.size ≤ V2.heap.size := by
    rcases hg with ⟨_, h1⟩ | ⟨_, h1⟩
    · exact ⟨h1.os, h1.tape, h1.output, h1.size⟩
    · exact ⟨h1.os, h1.tape, h1.output, h1.size⟩
  refine ⟨(hblk b hbl (Ne.symm hng.2)).trans h.bb, (hblk g hgl (Ne.symm hng.1)).trans h.net, (hblk gx h.lk.lt (Ne.symm hrx)).trans h.lk, hrows, ho, hap, hfr, hoff, hng, h.bel.trans ⟨⟨hos.1, hos.2.1, hos.2.2.1, hos.2.2.2, fun k hk => hblk k (by have := h.sz; omega) (by omega)⟩, fun k hk _ _ hs => hblk k hk (hrs k hk hs), fun k hz hk => hblk k hk (fun e => hzr (e ▸ hz))⟩, Nat.le_trans h.sz hos.2.2.2, h.zz.mono hos.2.2.2, hzr⟩

theorem Mid2.nb {w V : World} {B g b gx n : Nat} {o1 o2 : Obj} {side : Nat} {lost : Int} {N : Int → Int → List ByteArray} {R : Int → Int → Value} {x y : Int} {s : ByteArray} {r' cap : Nat} (h : Mid2 Z w B g b gx o1 side lost N R x y s r' cap V)
    (hfin : ∀ w3 f', w3.heap[b]? = some o2 → f' (lkV x y) = some (.slice (some ⟨r', 0, none⟩) ((N x y).length + 1) cap) → (∀ z, z ≠ lkV x y → f' z = fL (fun a c => nv (N a c) (R a c)) z) → MapIs Try.prog 33 w3 b (n + 1) f') (hne : b ≠ g) (hlo : B ≤ g ∧ B ≤ b) (_hx : Wf x) (_hy : Wf y) :
    NB Z (setBlock V b o2) B g b (n + 1) side lost (upN N x y (N x y ++ [s])) (upR R x y (.slice (some ⟨r', 0, none⟩) ((N x y).length + 1) cap)) := by
  have hE := Ex.setB V b o2
  have hbl := (Array.getElem?_eq_some_iff.1 h.bb).1
  have u1 : upN N x y (N x y ++ [s]) x y = N x y ++ [s] := if_pos ⟨rfl, rfl⟩
  have u2 : upR R x y (.slice (some ⟨r', 0, none⟩) ((N x y).length + 1) cap) x y = .slice (some ⟨r', 0, none⟩) ((N x y).length + 1) cap := if_pos ⟨rfl, rfl⟩
  have u3 : ∀ a c, ¬ (a = x ∧ c = y) → upN N x y (N x y ++ [s]) a c = N a c := fun a c h => if_neg h
  have u4 : ∀ a c, ¬ (a = x ∧ c = y) → upR R x y (.slice (some ⟨r', 0, none⟩) ((N x y).length + 1) cap) a c = R a c := fun a c h => if_neg h
  have hnn : N x y ++ [s] ≠ [] := by simp
  refine ⟨h.net.ex hE (Ne.symm hne), hfin _ _ (heap_setBlock V b o2 hbl) ?_ ?_, ?_, ?_, hne, ?_, hlo, (h.zz.1.mono hE.size).up x y _ _ (fun k hk => by rw [← Option.some.inj hk]; exact h.zz.2)⟩
  · rw [fL_key, u1, u2]
    match hq : N x y ++ [s], hnn with
    | m :: l, _ => rfl
  · intro z hz
    exact fL_ne (fun a c hac => by rw [u3 a c hac, u4 a c hac]) z hz
  · intro a c hn
    by_cases hac : a = x ∧ c = y
    · obtain ⟨rfl, rfl⟩ := hac
      rw [u1, u2, List.length_append, List.length_singleton]
      exact ownsRow_ex h.own hE (fun e => h.ng.2 (Option.some.inj e))
    · rw [u3 a c hac] at hn ⊢
      rw [u4 a c hac]
      exact ownsRow_ex (h.rows a c hn hac) hE (h.off a c hn).2
  · intro a c a' c' hn hn' he
    by_cases hac : a = x ∧ c = y
    · by_cases hac' : a' = x ∧ c' = y
      · exact ⟨hac.1.trans hac'.1.symm, hac.2.trans hac'.2.symm⟩
      · rw [u3 a' c' hac'] at hn'
        rw [u4 a' c' hac', hac.1, hac.2, u2] at he
        exact absurd he.symm (h.fresh a' c' hn' hac')
    · rw [u3 a c hac] at hn
      by_cases hac' : a' = x ∧ c' = y
      · rw [u4 a c hac, hac'.1, hac'.2, u2] at he
        exact absurd he (h.fresh a c hn hac)
      · rw [u3 a' c' hac'] at hn'
        rw [u4 a c hac, u4 a' c' hac'] at he
        exact h.apart a c a' c' hn hn' he
  · intro a c hn
    by_cases hac : a = x ∧ c = y
    · rw [hac.1, hac.2, u2]
      exact ⟨fun e => h.ng.1 (Option.some.inj e), fun e => h.ng.2 (Option.some.inj e)⟩
    · rw [u3 a c hac] at hn
      rw [u4 a c hac]
      exact h.off a c hn

set_option linter.unusedSimpArgs false in
set_option maxRecDepth 20000 in
set_option maxHeartbeats 4000000 in
theorem nadd_yes {w : World} {B g b n side : Nat} {lost : Int} {N : Int → Int → List ByteArray} {R : Int → Int → Value} (h : NB Z w B g b n side lost N R) (hn : n ≤ maxLen) {x y : Int} (hx : Wf x) (hy : Wf y) (s : ByteArray) (hf : (N x y).length < 8) :
    Calls Try.prog 47 #[.pointer (some ⟨g, 0, none⟩), .agg #[.int .i64 x, .int .i64 y], .string s] w fun o w' => o = .returned (.int .i64 0) ∧ (∃ v, NB Z w' B g b (n + 1) side lost (upN N x y (N x y ++ [s])) (upR R x y v)) ∧ BelF Z B g b w w' := by
  have hba := below_alloc w (.cells #[.int .i64 x, .int .i64 y] 33)
  have hA := At.new 33 w #[.int .i64 x, .int .i64 y]
  have hN := h.below hba
  obtain ⟨q0, q1, q2⟩ := hN.blk.three
  obtain ⟨a0, a1⟩ := hA.two
  obtain ⟨p, c, hs, hown⟩ := hN.sl x y
  have hlk := fun t => NB.look (hN.below (below_drewN (Below.refl _ _) t)) hx hy
  unfold lkV at hlk
  rw [hs] at hlk
  have hBw : B ≤ w.heap.size := Nat.le_of_lt (Nat.lt_of_le_of_lt h.lo.1 h.blk.lt)
  have hgxb : w.heap.size ≠ b := Nat.ne_of_gt h.map.lt
  have hgxg : w.heap.size ≠ g := Nat.ne_of_gt h.blk.lt
  clear h hown
  have hd : decide ((8 : Int) ≤ ((N x y).length : Int)) = false := decide_eq_false (by omega)
  go_enter Try.func47, Try.ntmps47
  go_wp2_with fail
  go_quiet (fail)
  go_wp2_with fail
  have hN1 := hN.below (below_drewN (Below.refl _ _) nq)
  have hA1 := hA.below (below_drewN (Below.refl _ _) nq)
  have hbw0 := below_drewN hba nq
  clear hN hA hba hlk a0 a1 q0 q1 q2 hd hs
  generalize ((w.alloc (.cells #[.int .i64 x, .int .i64 y] 33)).drewN nq) = w0 at *
  have hN := hN1
  have hA := hA1
  have hbw : Below w.heap.size w w0 := hbw0
  have hF0 : BelF Z B g b w w0 := BelF.ofB hbw0 hBw
  have hbws : w.heap.size ≤ w0.heap.size := hbw0.size
  have hBw0 : B ≤ w0.heap.size := Nat.le_trans hBw hbws
  have q0 := hN.blk.cell 0
  clear hN1 hA1 hbw0
  generalize w.heap.size = gx at *
  have hgxl : gx < w0.heap.size := hA.lt
  have hgbl : b < w0.heap.size ∧ g < w0.heap.size := ⟨hN.map.lt, hN.blk.lt⟩
  have hS0 : Bl w0 w0.drew := (Below.refl _ _).drew
  refine wp_region_det [0, 1, 2, 3, 4, 5, 8, 10] (fun W => W.cell? ⟨g, 0, none⟩ = some (.map (some b)) ∧ W.rangeAt gx 0 [.int .i64 x, .int .i64 y]) (Bl w0) (by kernel_rfl) hS0 ?_
  refine wpDet_take ?vA0 (Bl.stays w0) (fun W h => ⟨cell_below h q0, hA.rangeB h⟩) (i := 0) rfl (by kernel_rfl) (by kernel_rfl) (by kernel_rfl) (by kernel_rfl) (fun _ _ _ h => h) (Gives.value (by rfl) ?yA0) ?rA0
  case yA0 => (intro w' hSw; go_simp; try with_reducible rfl)
  (try simp only [Act.put, List.getElem_toArray, List.getElem_cons_zero, List.getElem_cons_succ, List.setIfInBounds_toArray, List.set_cons_zero, List.set_cons_succ])
  refine wpDet_take ?vA1 (Bl.stays w0) (fun W h => ⟨cell_below h q0, hA.rangeB h⟩) (i := 1) rfl (by kernel_rfl) (by kernel_rfl) (by kernel_rfl) (by kernel_rfl) (fun _ _ _ h => h) (Gives.value (by rfl) ?yA1) ?rA1
  case yA1 => (intro w' hSw; go_simp; try with_reducible rfl)
  (try simp only [Act.put, List.getElem_toArray, List.getElem_cons_zero, List.getElem_cons_succ, List.setIfInBounds_toArray, List.set_cons_zero, List.set_cons_succ])
  refine wpDet_take ?vA2 (Bl.stays w0) (fun W h => ⟨cell_below h q0, hA.rangeB h⟩) (i := 2) rfl (by kernel_rfl) (by kernel_rfl) (by kernel_rfl) (by kernel_rfl) (fun _ _ _ h => h) (Gives.value (by rfl) ?yA2) ?rA2
  case yA2 => (intro w' hSw; go_simp; try with_reducible rfl)
  (try simp only [Act.put, List.getElem_toArray, List.getElem_cons_zero, List.getElem_cons_succ, List.setIfInBounds_toArray, List.set_cons_zero, List.set_cons_succ])
  refine wpDet_take ?vA3 (Bl.stays w0) (fun W h => ⟨cell_below h q0, hA.rangeB h⟩) (i := 3) rfl (by kernel_rfl) (by kernel_rfl) (by kernel_rfl) (by kernel_rfl) (fun _ _ _ h => h) (Gives.value (by rfl) ?yA3) ?rA3
  case yA3 => (intro w' hSw; have hz0 := hSw.1; go_simp; try with_reducible rfl)
  (try simp only [Act.put, List.getElem_toArray, List.getElem_cons_zero, List.getElem_cons_succ, List.setIfInBounds_toArray, List.set_cons_zero, List.set_cons_succ])
  refine wpDet_take _ (Bl.stays w0) (fun W h => ⟨cell_below h q0, hA.rangeB h⟩) (i := 4) rfl (by kernel_rfl) (by kernel_rfl) (by kernel_rfl) (by kernel_rfl) (fun _ _ _ h => h) (Gives.of_yields (yieldsIf_load_mid (by rfl) _ _ rfl _ _ rfl _ _ (fun W h => h.2) Try.underlying33 rfl sizeLk)) ?_
  (try simp only [Act.put, List.getElem_toArray, List.getElem_cons_zero, List.getElem_cons_succ, List.setIfInBounds_toArray, List.set_cons_zero, List.set_cons_succ])
  refine wpDet_take ?vA5 (Bl.stays w0) (fun W h => ⟨cell_below h q0, hA.rangeB h⟩) (i := 5) rfl (by kernel_rfl) (by kernel_rfl) (by kernel_rfl) (by kernel_rfl) (fun _ _ _ h => h) (Gives.value (by rfl) ?yA5) ?rA5
  case yA5 => (intro w' hSw; go_simp; try with_reducible rfl)
  (try simp only [Act.put, List.getElem_toArray, List.getElem_cons_zero, List.getElem_cons_succ, List.setIfInBounds_toArray, List.set_cons_zero, List.set_cons_succ])
  refine wpDet_ready (rs := [6]) (by kernel_rfl) (by simp) (AllDet.cons rfl (fun V hV K hK => ?_) AllDet.nil)
  rw [if_pos (by rfl)]
  refine wp_value (.slice (some ⟨V.heap.size, 0, none⟩) 1 1) (V.alloc (.cells #[.string s] 9)) (by first | (go_simp; done) | (go_simp; rfl)) ?_
  have hba := below_alloc V (.cells #[.string s] 9)
  have hAs := At.new 9 V #[.string s]
  obtain ⟨gs, hgse⟩ : ∃ z, z = V.heap.size := ⟨_, rfl⟩
  rw [← hgse] at hAs ⊢
  have hgs : w0.heap.size ≤ gs := by rw [hgse]; exact (Bl.out' hV).size
  have hgsb : gs ≠ b := by omega
  have hgsn : gs ≠ g := by omega
  refine hK.out (fun W => Bl w0 W ∧ At 9 W gs #[.string s]) _ _ (fun W W' h hb => ⟨Bl.stays w0 W W' h.1 hb, h.2.below hb⟩) (fun _ W h => ⟨cell_below h.1 q0, hA.rangeB h.1⟩) ⟨Bl.stays w0 V _ hV hba, hAs⟩ ?_
  clear hK K hV hba hAs hgse
  (try simp only [Act.put, List.getElem_toArray, List.getElem_cons_zero, List.getElem_cons_succ, List.setIfInBounds_toArray, List.set_cons_zero, List.set_cons_succ])
  refine wpDet_ready (rs := [7]) (by kernel_rfl) (by simp) (AllDet.cons rfl (fun V hV K hK => ?_) AllDet.nil)
  rw [if_pos (by rfl)]
  have hNV := hN.below hV.1
  obtain ⟨stp, o1, hrun, hback⟩ := hNV.map.entry hn linkLaw mapT zeroL (key_ok hx hy)
  rw [fL_key] at hrun
  have hrun' : (Instr.mapEntry 66 (.map (some b)) (.agg #[.int .i64 x, .int .i64 y])).run Try.prog V = .ok (.tuple #[slV (N x y) (R x y), goInt stp]) (setBlock V b o1) := hrun
  refine wp_value (.tuple #[slV (N x y) (R x y), goInt stp]) (setBlock V b o1) (by first | (go_simp; done) | (go_simp; rfl)) ?_
  have hbl := hNV.map.lt
  have hE1 : Ex b V (setBlock V b o1) := Ex.setB V b o1
  have hAs1 := hV.2.ex hE1 hgsb
  have hq1 : (setBlock V b o1).cell? ⟨g, 0, none⟩ = some (.map (some b)) := (hNV.blk.ex hE1 (Ne.symm hNV.ne)).cell 0
  have hAl1 : At 33 (setBlock V b o1) gx #[.int .i64 x, .int .i64 y] := (hA.below hV.1).ex hE1 hgxb
  have hBV := Bl.out' hV.1
  have hsz1 : V.heap.size ≤ (setBlock V b o1).heap.size := hE1.size
  have hown1 := ownsRow_ex (hNV.sl x y).choose_spec.choose_spec.2 hE1 (hNV.slne x y).2
  have hrow1 : ∀ a c, N a c ≠ [] → (setBlock V b o1).ownsRow B 9 1 (R a c) (N a c).length ((N a c).map .string) := fun a c h => ownsRow_ex (hNV.rows a c h) hE1 (hNV.off a c h).2
  have hblk1 := hNV.blk.ex hE1 (Ne.symm hNV.ne)
  have hBB1 : BelF Z B g b w (setBlock V b o1) := (hF0.bl (Bl.out' hV.1) hBw0).trans (BelF.exb hE1 hNV.lo.2 hbl hNV.zz.2.1.2)
  have hBs1 : B ≤ (setBlock V b o1).heap.size := Nat.le_trans (Nat.le_trans hBw0 (Bl.out' hV.1).size) hsz1
  have hbb1 : (setBlock V b o1).heap[b]? = some o1 := heap_setBlock V b o1 hbl
  have hzz1 := hNV.zz.mono hsz1
  refine hK.out (Mid Z w B g b gx gs o1 side lost N R x y s) _ _ (Mid.stays _ _ _ _ _ _ _ _ _ _ _ _ _ _) (fun _ W h => ⟨h.net.cell 0, (At.rangeB h.lk (Below.refl _ _))⟩) ⟨hbb1, hAs1, hblk1, hAl1, hrow1, hown1, hBB1, hBs1, hzz1⟩ ?_
  have hap := hNV.apart
  have hoff := hNV.off
  have hsn := hNV.slne x y
  have hne := hNV.ne
  have hlo := hNV.lo
  clear hK K hV hNV hrun hrun' hbl hE1 hAs1 hq1 hAl1 hBV hsz1 hown1 hrow1 hblk1 hBB1 hBs1 hbb1 hzz1
  (try simp only [Act.put, List.getElem_toArray, List.getElem_cons_zero, List.getElem_cons_succ, List.setIfInBounds_toArray, List.set_cons_zero, List.set_cons_succ])
  refine wpDet_take ?vB8 (Mid.stays _ _ _ _ _ _ _ _ _ _ _ _ _ _) (fun W h => ⟨h.net.cell 0, (At.rangeB h.lk (Below.refl _ _))⟩) (i := 8) rfl (by kernel_rfl) (by kernel_rfl) (by kernel_rfl) (by kernel_rfl) (fun _ _ _ h => h) (Gives.value (by rfl) ?yB8) ?rB8
  case yB8 => (intro w' hSw; go_simp; try with_reducible rfl)
  (try simp only [Act.put, List.getElem_toArray, List.getElem_cons_zero, List.getElem_cons_succ, List.setIfInBounds_toArray, List.set_cons_zero, List.set_cons_succ])
  refine wpDet_take ?vB10 (Mid.stays _ _ _ _ _ _ _ _ _ _ _ _ _ _) (fun W h => ⟨h.net.cell 0, (At.rangeB h.lk (Below.refl _ _))⟩) (i := 10) rfl (by kernel_rfl) (by kernel_rfl) (by kernel_rfl) (by kernel_rfl) (fun _ _ _ h => h) (Gives.value (by rfl) ?yB10) ?rB10
  case yB10 => (intro w' hSw; go_simp; try with_reducible rfl)
  (try simp only [Act.put, List.getElem_toArray, List.getElem_cons_zero, List.getElem_cons_succ, List.setIfInBounds_toArray, List.set_cons_zero, List.set_cons_succ])
  refine wpDet_ready (rs := [9]) (by kernel_rfl) (by simp) (AllDet.cons rfl (fun V hV K hK => ?_) AllDet.nil)
  rw [if_pos (by rfl)]
  obtain ⟨r', cap', V2, hrun, hown2, hgrow⟩ := run_appS V B 75 (slV (N x y) (R x y)) (N x y) hV.own gs 1 s (hV.str.cell 0) (by omega) hV.sz
  refine wp_app (.tmp 20) (.tmp 22) 75 rfl (slV (N x y) (R x y)) (.slice (some ⟨gs, 0, none⟩) 1 1) rfl rfl _ V2 hrun ?_
  have hm2 := Mid2.of hV hgrow hown2 hap hoff hsn hgsb hgxg hgxb hne hlo hgsn
  refine hK.out (Mid2 Z w B g b gx o1 side lost N R x y s r' cap') _ _ (Mid2.stays _ _ _ _ _ _ _ _ _ _ _ _ _ _ _) (fun _ W h => ⟨h.net.cell 0, (At.rangeB h.lk (Below.refl _ _))⟩) hm2 ?_
  clear hK K hV hrun hown2 hgrow hm2
  (try simp only [Act.put, List.getElem_toArray, List.getElem_cons_zero, List.getElem_cons_succ, List.setIfInBounds_toArray, List.set_cons_zero, List.set_cons_succ])
  refine wpDet_ready (rs := [11]) (by kernel_rfl) (by simp) (AllDet.cons rfl (fun V hV K hK => ?_) AllDet.nil)
  rw [if_pos (by rfl)]
  obtain ⟨o2, hst, hfin⟩ := hback V (.slice (some ⟨r', 0, none⟩) ((N x y).length + 1) cap') hV.bb
  refine wp_entryStore 66 (.tmp 18) (.tmp 25) (.tmp 24) rfl (.map (some b)) (goInt stp) (.slice (some ⟨r', 0, none⟩) ((N x y).length + 1) cap') rfl rfl rfl (setBlock V b o2) hst ?_
  have hNB := Mid2.nb hV hfin hne hlo hx hy
  have hBz : BelF Z B g b w (setBlock V b o2) := hV.bel.trans (BelF.exb (Ex.setB V b o2) hlo.2 (Array.getElem?_eq_some_iff.1 hV.bb).1 hV.zz.1.2.1.2)
  have hBz2 : B ≤ (setBlock V b o2).heap.size := Nat.le_trans hV.sz (Ex.setB V b o2).size
  refine hK.out (fun W => NB Z W B g b (n + 1) side lost (upN N x y (N x y ++ [s])) (upR R x y (.slice (some ⟨r', 0, none⟩) ((N x y).length + 1) cap')) ∧ BelF Z B g b w W ∧ B ≤ W.heap.size) _ _ (fun W W' h hb => ⟨h.1.below hb, h.2.1.bl hb h.2.2, Nat.le_trans h.2.2 hb.size⟩) (no_lean (by kernel_rfl)) ⟨hNB, hBz, hBz2⟩ ?_
  clear hK K hV hst hfin hNB hBz hBz2
  (try simp only [Act.put, List.getElem_toArray, List.getElem_cons_zero, List.getElem_cons_succ, List.setIfInBounds_toArray, List.set_cons_zero, List.set_cons_succ])
  refine wpDet_done (by kernel_rfl) (fun Wz hV => ?_) _
  obtain ⟨hNz, hBz, _⟩ := hV
  go_wp2_with fail
  go_ret
  exact ⟨rfl, ⟨_, hNz⟩, hBz⟩

end Go.Proofs.Ytmnipfdcbmamnaa.M
