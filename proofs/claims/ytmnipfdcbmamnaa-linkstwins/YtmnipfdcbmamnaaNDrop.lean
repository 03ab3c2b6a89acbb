/-
  Own text: the contract of links' drop.
-/
import Derived.Test.YtmnipfdcbmamnaaNDel
namespace Go.Proofs.Ytmnipfdcbmamnaa.M
open Go.ChangeShapes Go.WideShapes Go.ChangeAt Go.RowKit Go.ChangeMaps Go.MapKept Go.Maps

variable {Z : Nat → Prop}

theorem wp_enterN {P : Program} {op : Oper} {a : Act} {w : World} {K : Act → World → Prop} {Q : Exit → Act → World → Prop} (f : FuncId) (args : Array Value) (he : (execOp a.eval op).run P w = .ok (.enter f args) w) (R : Value → World → Prop) (hc : Calls P f args w fun e w' => ∃ v, e = .returned v ∧ R v w') (h : ∀ v w', R v w' → K (a.put op.dst v) w') : op.wp P a w K Q := by
  unfold Oper.wp
  rw [he]
  refine Calls.mono hc ?_
  rintro e w' ⟨v, rfl, hR⟩
  exact h v w' hR

theorem wp_del {P : Program} {op : Oper} {a : Act} {w : World} {K : Act → World → Prop} {Q : Exit → Act → World → Prop} (s x : Operand) (t k : TypeId) (hop : op.op = .call { callee := .builtin .delete, args := #[s, x], argTypes := #[t, k] }) (u v : Value) (hs : a.eval s = u) (hx : a.eval x = v) (y : Value) (w' : World)
    (hrun : (Builtin.delete_ #[t, k] op.type #[u, v]).run P w = .ok y w') (h : K (a.put op.dst y) w') : op.wp P a w K Q := by
  unfold Oper.wp
  simp [execOp, hop, resolve, invoke, builtin, hs, hx, hrun, Result.andThen]
  exact h

theorem wp_put {P : Program} {op : Oper} {a : Act} {w : World} {K : Act → World → Prop} {Q : Exit → Act → World → Prop} (t : TypeId) (m k v : Operand) (hop : op.op = .mapUpdate t m k v) (u1 u2 u3 : Value) (hm : a.eval m = u1) (hs : a.eval k = u2) (hv : a.eval v = u3) (w' : World)
    (hrun : (Instr.mapUpdate t u1 u2 u3).run P w = .ok () w') (h : K (a.put op.dst undef) w') : op.wp P a w K Q := by
  unfold Oper.wp
  simp [execOp, hop, hm, hs, hv, hrun, Result.andThen]
  exact h

theorem look_of {w : World} {b n : Nat} {N : Int → Int → List ByteArray} {R : Int → Int → Value} (h : MapIs Try.prog 33 w b n (fL fun a c => nv (N a c) (R a c))) {x y : Int} (hx : Wf x) (hy : Wf y) :
    (Instr.lookup 66 (.map (some b)) (lkV x y) false).run Try.prog w = .ok (slV (N x y) (R x y)) w :=
  h.look (Keyed.of_law linkLaw) mapT (zeroL w) (key_ok hx hy)

/-- A Net while a message is gone from its row, and the map does not know it as yet. -/
structure Dp (Z : Nat → Prop) (w : World) (B g b gx n side : Nat) (lost : Int) (N : Int → Int → List ByteArray) (R : Int → Int → Value) (x y : Int) (l : List ByteArray) (r m cap : Nat) (W : World) : Prop where
  net : At 68 W g #[.map (some b), .int .u64 side, .int .i64 lost]
  lk : At 33 W gx #[.int .i64 x, .int .i64 y]
  map : MapIs Try.prog 33 W b n (fL fun a c => nv (N a c) (R a c))
  rows : ∀ a c, N a c ≠ [] → ¬ (a = x ∧ c = y) → W.ownsRow B 9 1 (R a c) (N a c).length ((N a c).map .string)
  own : W.ownsRow B 9 1 (.slice (some ⟨r, 0, none⟩) m cap) m (l.map .string)
  apart : ∀ a c a' c', N a c ≠ [] → N a' c' ≠ [] → (R a c).ownBlock = (R a' c').ownBlock → a = a' ∧ c = c'
  fresh : ∀ a c, N a c ≠ [] → ¬ (a = x ∧ c = y) → (R a c).ownBlock ≠ some r
  off : ∀ a c, N a c ≠ [] → (R a c).ownBlock ≠ some g ∧ (R a c).ownBlock ≠ some b
  ng : r ≠ g ∧ r ≠ b
  ne : b ≠ g
  lo : B ≤ g ∧ B ≤ b
  bel : BelF Z B g b w W
  sz : B ≤ W.heap.size
  zz : NZ Z W g b N R ∧ ¬ Z r

theorem Dp.stays (w : World) (B g b gx n side : Nat) (lost : Int) (N : Int → Int → List ByteArray) (R : Int → Int → Value) (x y : Int) (l : List ByteArray) (r m cap : Nat) : Stays (Dp Z w B g b gx n side lost N R x y l r m cap) := fun _ _ h hb =>
  ⟨h.net.below hb, h.lk.below hb, h.map.kept (hb.block b h.map.lt), fun a c hn hne => ownsRow_below (h.rows a c hn hne) hb, ownsRow_below h.own hb, h.apart, h.fresh, h.off, h.ng, h.ne, h.lo, h.bel.bl hb h.sz, Nat.le_trans h.sz hb.size, h.zz.1.mono hb.size, h.zz.2⟩

theorem Dp.of {w w0 V V7 : World} {B g b gx n side : Nat} {lost : Int} {N : Int → Int → List ByteArray} {R : Int → Int → Value} {x y : Int} {l : List ByteArray} {r len cap m : Nat} (h : NB Z V B g b n side lost N R) (hA : At 33 V gx #[.int .i64 x, .int .i64 y])
    (hF0 : BelF Z B g b w w0) (hBw : B ≤ w0.heap.size) (hV : Bl w0 V) (hRv : R x y = .slice (some ⟨r, 0, none⟩) len cap) (hnn : N x y ≠ []) (_hgxg : gx ≠ g)
    (ho : V7.ownsRow B 9 1 (.slice (some ⟨r, 0, none⟩) m cap) m (l.map .string)) (hE : Ex r V V7) : Dp Z w B g b gx n side lost N R x y l r m cap V7 := by
  have hrb : (R x y).ownBlock = some r := by rw [hRv]; rfl
  have hng : r ≠ g ∧ r ≠ b := ⟨fun e => (h.off x y hnn).1 (by rw [hrb, e]), fun e => (h.off x y hnn).2 (by rw [hrb, e])⟩
  have hfr : ∀ a c, N a c ≠ [] → ¬ (a = x ∧ c = y) → (R a c).ownBlock ≠ some r := fun a c hn hne e => hne (h.apart a c x y hn hnn (e.trans hrb.symm))
  have hrl := World.ownsRow.lt (h.rows x y hnn) r hrb
  have hrx : r ≠ gx := by
    rcases (h.rows x y hnn).2 with ⟨h2, _⟩ | ⟨g', cap', cur, h2, _, h3, _⟩
    · rw [h2] at hrb; cases hrb
    · rw [h2] at hrb
      injection hrb with h1
      intro e
      have h4 : V.heap[gx]? = some (.cells #[.int .i64 x, .int .i64 y] 33 (0, 0)) := hA
      have e2 : g' = gx := by rw [← e, ← h1]
      rw [e2, h4] at h3
      injection h3 with h3
      injection h3 with _ h5 _
      exact absurd h5 (by decide)
  have hrw : ∃ cs f, V.heap[r]? = some (.cells cs 9 f) := by
    rcases (h.rows x y hnn).2 with ⟨h2, _⟩ | ⟨g', cap', cur, h2, _, h3, _⟩
    · rw [h2] at hrb; cases hrb
    · rw [h2] at hrb
      injection hrb with h1
      have e2 : g' = r := h1
      rw [e2] at h3
      exact ⟨_, _, h3⟩
  have hzr : ¬ Z r := h.zz.2.2 x y hnn r hrb
  have hV' := Bl.out' hV
  exact ⟨h.blk.ex hE (Ne.symm hng.1), hA.ex hE (Ne.symm hrx), h.map.kept (hE.block b h.map.lt (Ne.symm hng.2)), fun a c hn hne => ownsRow_ex (h.rows a c hn) hE (hfr a c hn hne), ho, h.apart, hfr, h.off, hng, h.ne, h.lo, (hF0.bl hV' hBw).trans (hrw.elim fun cs h => h.elim fun f h => BelF.exr hE hrl.1 h hzr), Nat.le_trans (Nat.le_trans hBw hV'.size) hE.size, h.zz.mono hE.size, hzr⟩

/-- .. behind the store into the map, or the delete from it. -/
theorem Dp.fin {w V : World} {B g b gx n n' side : Nat} {lost : Int} {N : Int → Int → List ByteArray} {R : Int → Int → Value} {x y : Int} {l : List ByteArray} {r m cap : Nat} {o2 : Obj} (h : Dp Z w B g b gx n side lost N R x y l r m cap V) (hl : l.length = m)
    (hM : MapIs Try.prog 33 (setBlock V b o2) b n' (fL fun a c => nv (upN N x y l a c) (upR R x y (.slice (some ⟨r, 0, none⟩) m cap) a c))) :
    NB Z (setBlock V b o2) B g b n' side lost (upN N x y l) (upR R x y (.slice (some ⟨r, 0, none⟩) m cap)) := by
  have hE := Ex.setB V b o2
  have u1 : upN N x y l x y = l := if_pos ⟨rfl, rfl⟩
  have u2 : upR R x y (.slice (some ⟨r, 0, none⟩) m cap) x y = .slice (some ⟨r, 0, none⟩) m cap := if_pos ⟨rfl, rfl⟩
  have u3 : ∀ a c, ¬ (a = x ∧ c = y) → upN N x y l a c = N a c := fun a c h => if_neg h
  have u4 : ∀ a c, ¬ (a = x ∧ c = y) → upR R x y (.slice (some ⟨r, 0, none⟩) m cap) a c = R a c := fun a c h => if_neg h
  refine ⟨h.net.ex hE (Ne.symm h.ne), hM, ?_, ?_, h.ne, ?_, h.lo, (h.zz.1.mono hE.size).up x y _ _ (fun k hk => by rw [← Option.some.inj hk]; exact h.zz.2)⟩
  · intro a c hn
    by_cases hac : a = x ∧ c = y
    · obtain ⟨rfl, rfl⟩ := hac
      rw [u1, u2, hl]
      exact ownsRow_ex h.own hE (fun e => h.ng.2 (Option.some.inj e))
    · rw [u3 a c hac] at hn ⊢
      rw [u4 a c hac]
      exact ownsRow_ex (h.rows a c hn hac) hE (h.off a c hn).2
  · intro a c a' c' hn hn' he
    by_cases hac : a = x ∧ c = y
    · by_cases hac' : a' = x ∧ c' = y
      · exact ⟨hac.1.trans hac'.1.symm, hac.2.trans hac'.2.symm⟩
      · rw [u3 a' c' hac'] at hn'
        rw [u4 a' c' hac', hac.1, hac.2, u2] at he
        exact absurd he.symm (h.fresh a' c' hn' hac')
    · rw [u3 a c hac] at hn
      by_cases hac' : a' = x ∧ c' = y
      · rw [u4 a c hac, hac'.1, hac'.2, u2] at he
        exact absurd he (h.fresh a c hn hac)
      · rw [u3 a' c' hac'] at hn'
        rw [u4 a c hac, u4 a' c' hac'] at he
        exact h.apart a c a' c' hn hn' he
  · intro a c hn
    by_cases hac : a = x ∧ c = y
    · rw [hac.1, hac.2, u2]
      exact ⟨fun e => h.ng.1 (Option.some.inj e), fun e => h.ng.2 (Option.some.inj e)⟩
    · rw [u3 a c hac] at hn
      rw [u4 a c hac]
      exact h.off a c hn

theorem MapIs.mono {P : Program} {k : TypeId} {w : World} {b n n' : Nat} {f : Value → Option Value} (h : MapIs P k w b n f) (hn : n ≤ n') : MapIs P k w b n' f := by
  obtain ⟨es, clock, h1, ⟨h2, h3⟩, h4⟩ := h
  exact ⟨es, clock, h1, ⟨h2, Nat.le_trans h3 hn⟩, h4⟩

theorem Dp.gone {w V : World} {B g b gx n side : Nat} {lost : Int} {N : Int → Int → List ByteArray} {R : Int → Int → Value} {x y : Int} {l : List ByteArray} {r m cap : Nat} {o2 : Obj} (h : Dp Z w B g b gx n side lost N R x y l r m cap V) (hl : l.length = m ∧ l = [])
    (hfin : ∀ w3 f', w3.heap[b]? = some o2 → f' (lkV x y) = none → (∀ z, z ≠ lkV x y → f' z = fL (fun a c => nv (N a c) (R a c)) z) → MapIs Try.prog 33 w3 b n f') :
    NB Z (setBlock V b o2) B g b (n + 1) side lost (upN N x y l) (upR R x y (.slice (some ⟨r, 0, none⟩) m cap)) := by
  refine h.fin hl.1 ((hfin _ _ (heap_setBlock V b o2 h.map.lt) ?_ ?_).mono (Nat.le_succ n))
  · rw [fL_key, show upN N x y l x y = l from if_pos ⟨rfl, rfl⟩, hl.2]
    rfl
  · intro z hz
    exact fL_ne (fun a c hac => by rw [show upN N x y l a c = N a c from if_neg hac, show upR R x y (.slice (some ⟨r, 0, none⟩) m cap) a c = R a c from if_neg hac]) z hz

theorem Dp.back {w V : World} {B g b gx n side : Nat} {lost : Int} {N : Int → Int → List ByteArray} {R : Int → Int → Value} {x y : Int} {l : List ByteArray} {r m cap : Nat} {o2 : Obj} (h : Dp Z w B g b gx n side lost N R x y l r m cap V) (hl : l.length = m ∧ l ≠ [])
    (hfin : ∀ w3 f', w3.heap[b]? = some o2 → f' (lkV x y) = some (.slice (some ⟨r, 0, none⟩) m cap) → (∀ z, z ≠ lkV x y → f' z = fL (fun a c => nv (N a c) (R a c)) z) → MapIs Try.prog 33 w3 b (n + 1) f') :
    NB Z (setBlock V b o2) B g b (n + 1) side lost (upN N x y l) (upR R x y (.slice (some ⟨r, 0, none⟩) m cap)) := by
  refine h.fin hl.1 (hfin _ _ (heap_setBlock V b o2 h.map.lt) ?_ ?_)
  · rw [fL_key, show upN N x y l x y = l from if_pos ⟨rfl, rfl⟩, show upR R x y (.slice (some ⟨r, 0, none⟩) m cap) x y = .slice (some ⟨r, 0, none⟩) m cap from if_pos ⟨rfl, rfl⟩]
    match l, hl.2 with
    | a :: l, _ => rfl
  · intro z hz
    exact fL_ne (fun a c hac => by rw [show upN N x y l a c = N a c from if_neg hac, show upR R x y (.slice (some ⟨r, 0, none⟩) m cap) a c = R a c from if_neg hac]) z hz

set_option linter.unusedSimpArgs false in
set_option maxRecDepth 20000 in
set_option maxHeartbeats 4000000 in
theorem ndrop_any {w : World} {B g b n side : Nat} {lost : Int} {N : Int → Int → List ByteArray} {R : Int → Int → Value} (h : NB Z w B g b n side lost N R) {x y : Int} (hx : Wf x) (hy : Wf y) (i : Nat) (hi : i < (N x y).length) (hl8 : (N x y).length ≤ 1000) :
    Calls Try.prog 48 #[.pointer (some ⟨g, 0, none⟩), .agg #[.int .i64 x, .int .i64 y], .int .i64 i] w fun o w' => o = .returned (.tuple #[]) ∧ (∃ v, NB Z w' B g b (n + 1) side lost (upN N x y ((N x y).eraseIdx i)) (upR R x y v)) ∧ BelF Z B g b w w' := by
  have hba := below_alloc w (.cells #[.int .i64 x, .int .i64 y] 33)
  have hA := At.new 33 w #[.int .i64 x, .int .i64 y]
  have hN := h.below hba
  have hnn : N x y ≠ [] := fun e => by rw [e] at hi; exact absurd hi (Nat.not_lt_zero _)
  obtain ⟨r, cap, hRv⟩ : ∃ r cap, R x y = .slice (some ⟨r, 0, none⟩) (N x y).length cap := by
    rcases (h.rows x y hnn).2 with ⟨_, h0⟩ | ⟨g', cap, cur, hv, _⟩
    · omega
    · exact ⟨g', cap, hv⟩
  have hsl : slV (N x y) (R x y) = .slice (some ⟨r, 0, none⟩) (N x y).length cap := by
    rw [← hRv]
    match hq : N x y, hnn with
    | a :: l, _ => rfl
  have hBw : B ≤ w.heap.size := Nat.le_of_lt (Nat.lt_of_le_of_lt h.lo.1 h.blk.lt)
  have hgxg : w.heap.size ≠ g := Nat.ne_of_gt h.blk.lt
  have hgxb : w.heap.size ≠ b := Nat.ne_of_gt h.map.lt
  have hw1 : IntKind.i64.wrap ((i : Int) + 1) = (i : Int) + 1 := by rw [IntKind.wrap_i64]; omega
  have helen : ((N x y).eraseIdx i).length = (N x y).length - 1 := by rw [List.length_eraseIdx, if_pos hi]
  have HSL : Hid (slV (N x y) (R x y) = .slice (some ⟨r, 0, none⟩) (N x y).length cap) := hsl
  have HRV : Hid (R x y = .slice (some ⟨r, 0, none⟩) (N x y).length cap) := hRv
  have hF0 : BelF Z B g b w (w.alloc (.cells #[.int .i64 x, .int .i64 y] 33)) := BelF.ofB hba hBw
  have hBw0 : B ≤ (w.alloc (.cells #[.int .i64 x, .int .i64 y] 33)).heap.size := Nat.le_trans hBw hba.size
  clear h hba
  go_enter Try.func48, Try.ntmps48
  go_wp2_with fail
  generalize (w.alloc (.cells #[.int .i64 x, .int .i64 y] 33)) = w0 at *
  generalize w.heap.size = gx at *
  have hS0 : Bl w0 w0.drew := (Below.refl _ _).drew
  refine wp_region_det [0, 1, 2, 3, 4, 5, 6, 7, 8] (fun W => (At 68 W g #[.map (some b), .int .u64 side, .int .i64 lost] ∧ MapIs Try.prog 33 W b n (fL fun a c => nv (N a c) (R a c))) ∧ At 33 W gx #[.int .i64 x, .int .i64 y]) (Bl w0) (by kernel_rfl) hS0 ?_
  refine wpDet_take ?vA0 (Bl.stays w0) (fun W h => ⟨⟨(hN.below h).blk, (hN.below h).map⟩, hA.below h⟩) (i := 0) rfl (by kernel_rfl) (by kernel_rfl) (by kernel_rfl) (by kernel_rfl) (fun _ _ _ h => h) (Gives.value (by rfl) ?yA0) ?rA0
  case yA0 => (intro w' hSw; go_simp; try with_reducible rfl)
  (try simp only [Act.put, List.getElem_toArray, List.getElem_cons_zero, List.getElem_cons_succ, List.setIfInBounds_toArray, List.set_cons_zero, List.set_cons_succ])
  refine wpDet_take ?vA1 (Bl.stays w0) (fun W h => ⟨⟨(hN.below h).blk, (hN.below h).map⟩, hA.below h⟩) (i := 1) rfl (by kernel_rfl) (by kernel_rfl) (by kernel_rfl) (by kernel_rfl) (fun _ _ _ h => h) (Gives.value (by rfl) ?yA1) ?rA1
  case yA1 => (intro w' hSw; go_simp; try with_reducible rfl)
  (try simp only [Act.put, List.getElem_toArray, List.getElem_cons_zero, List.getElem_cons_succ, List.setIfInBounds_toArray, List.set_cons_zero, List.set_cons_succ])
  refine wpDet_take ?vA2 (Bl.stays w0) (fun W h => ⟨⟨(hN.below h).blk, (hN.below h).map⟩, hA.below h⟩) (i := 2) rfl (by kernel_rfl) (by kernel_rfl) (by kernel_rfl) (by kernel_rfl) (fun _ _ _ h => h) (Gives.value (by rfl) ?yA2) ?rA2
  case yA2 => (intro w' hSw; go_simp; try with_reducible rfl)
  (try simp only [Act.put, List.getElem_toArray, List.getElem_cons_zero, List.getElem_cons_succ, List.setIfInBounds_toArray, List.set_cons_zero, List.set_cons_succ])
  refine wpDet_take ?vA3 (Bl.stays w0) (fun W h => ⟨⟨(hN.below h).blk, (hN.below h).map⟩, hA.below h⟩) (i := 3) rfl (by kernel_rfl) (by kernel_rfl) (by kernel_rfl) (by kernel_rfl) (fun _ _ _ h => h) (Gives.value (by rfl) ?yA3) ?rA3
  case yA3 => (intro w' hSw; have hz0 := hSw.1.1.cell 0; go_simp; try with_reducible rfl)
  (try simp only [Act.put, List.getElem_toArray, List.getElem_cons_zero, List.getElem_cons_succ, List.setIfInBounds_toArray, List.set_cons_zero, List.set_cons_succ])
  refine wpDet_take _ (Bl.stays w0) (fun W h => ⟨⟨(hN.below h).blk, (hN.below h).map⟩, hA.below h⟩) (i := 4) rfl (by kernel_rfl) (by kernel_rfl) (by kernel_rfl) (by kernel_rfl) (fun _ _ _ h => h) (Gives.of_yields (yieldsIf_load_mid (by rfl) _ _ rfl _ _ rfl _ _ (fun W h => At.rangeB h.2 (Below.refl _ _)) Try.underlying33 rfl sizeLk)) ?_
  (try simp only [Act.put, List.getElem_toArray, List.getElem_cons_zero, List.getElem_cons_succ, List.setIfInBounds_toArray, List.set_cons_zero, List.set_cons_succ])
  refine wpDet_take ?vA5 (Bl.stays w0) (fun W h => ⟨⟨(hN.below h).blk, (hN.below h).map⟩, hA.below h⟩) (i := 5) rfl (by kernel_rfl) (by kernel_rfl) (by kernel_rfl) (by kernel_rfl) (fun _ _ _ h => h) (Gives.value (by rfl) ?yA5) ?rA5
  case yA5 => (intro w' hSw; have hlk := look_of hSw.1.2 hx hy; unfold lkV at hlk; rw [hsl] at hlk; go_simp; try with_reducible rfl)
  (try simp only [Act.put, List.getElem_toArray, List.getElem_cons_zero, List.getElem_cons_succ, List.setIfInBounds_toArray, List.set_cons_zero, List.set_cons_succ])
  refine wpDet_take ?vA6 (Bl.stays w0) (fun W h => ⟨⟨(hN.below h).blk, (hN.below h).map⟩, hA.below h⟩) (i := 6) rfl (by kernel_rfl) (by kernel_rfl) (by kernel_rfl) (by kernel_rfl) (fun _ _ _ h => h) (Gives.value (by rfl) ?yA6) ?rA6
  case yA6 => (intro w' hSw; go_simp; try with_reducible rfl)
  (try simp only [Act.put, List.getElem_toArray, List.getElem_cons_zero, List.getElem_cons_succ, List.setIfInBounds_toArray, List.set_cons_zero, List.set_cons_succ])
  refine wpDet_take ?vA7 (Bl.stays w0) (fun W h => ⟨⟨(hN.below h).blk, (hN.below h).map⟩, hA.below h⟩) (i := 7) rfl (by kernel_rfl) (by kernel_rfl) (by kernel_rfl) (by kernel_rfl) (fun _ _ _ h => h) (Gives.value (by rfl) ?yA7) ?rA7
  case yA7 => (intro w' hSw; go_simp; try with_reducible rfl)
  (try simp only [Act.put, List.getElem_toArray, List.getElem_cons_zero, List.getElem_cons_succ, List.setIfInBounds_toArray, List.set_cons_zero, List.set_cons_succ])
  refine wpDet_take ?vA8 (Bl.stays w0) (fun W h => ⟨⟨(hN.below h).blk, (hN.below h).map⟩, hA.below h⟩) (i := 8) rfl (by kernel_rfl) (by kernel_rfl) (by kernel_rfl) (by kernel_rfl) (fun _ _ _ h => h) (Gives.value (by rfl) ?yA8) ?rA8
  case yA8 => (intro w' hSw; go_simp; try with_reducible rfl)
  (try simp only [Act.put, List.getElem_toArray, List.getElem_cons_zero, List.getElem_cons_succ, List.setIfInBounds_toArray, List.set_cons_zero, List.set_cons_succ])
  refine wpDet_ready (rs := [9]) (by kernel_rfl) (by simp) (AllDet.cons rfl (fun V hV K hK => ?_) AllDet.nil)
  rw [if_pos (by rfl)]
  have hNV := hN.below hV
  have hown := hNV.rows x y hnn
  rw [hRv] at hown
  have hD := del_any V B r cap (N x y) hown i hi (by omega)
  refine wp_enterN 57 #[.slice (some ⟨r, 0, none⟩) (N x y).length cap, .int .i64 i, .int .i64 ((i : Int) + 1)] (by first | (go_simp; done) | (go_simp; rfl)) (fun v W => v = .slice (some ⟨r, 0, none⟩) ((N x y).length - 1) cap ∧ W.ownsRow B 9 1 (.slice (some ⟨r, 0, none⟩) ((N x y).length - 1) cap) ((N x y).length - 1) (((N x y).eraseIdx i).map .string) ∧ Ex r V W) (hD.mono fun e' w' hh => ⟨_, hh.1, rfl, hh.2⟩) ?_
  rintro v V7 ⟨rfl, ho7, hE7⟩
  have hdp := Dp.of hNV (hA.below hV) hF0 hBw0 hV hRv hnn hgxg ho7 hE7
  refine hK.out (Dp Z w B g b gx n side lost N R x y ((N x y).eraseIdx i) r ((N x y).length - 1) cap) _ _ (Dp.stays _ _ _ _ _ _ _ _ _ _ _ _ _ _ _ _) (fun _ W h => ⟨⟨h.net, h.map⟩, h.lk⟩) hdp ?_
  clear hK K hV hNV hown hD ho7 hE7 hdp
  (try simp only [Act.put, List.getElem_toArray, List.getElem_cons_zero, List.getElem_cons_succ, List.setIfInBounds_toArray, List.set_cons_zero, List.set_cons_succ])
  refine wpDet_ready (rs := [10]) (by kernel_rfl) (by simp) (AllDet.cons rfl (fun V hV K hK => ?_) AllDet.nil)
  rw [if_pos (by rfl)]
  refine wp_value (.slice (some ⟨r, 0, none⟩) ((N x y).length - 1) cap) V (by first | (go_simp; done) | (go_simp; rfl)) ?_
  refine hK.out (Dp Z w B g b gx n side lost N R x y ((N x y).eraseIdx i) r ((N x y).length - 1) cap) _ _ (Dp.stays _ _ _ _ _ _ _ _ _ _ _ _ _ _ _ _) (no_lean (by kernel_rfl)) hV ?_
  clear hK K hV
  (try simp only [Act.put, List.getElem_toArray, List.getElem_cons_zero, List.getElem_cons_succ, List.setIfInBounds_toArray, List.set_cons_zero, List.set_cons_succ])
  refine wpDet_done (by kernel_rfl) (fun W1 hD => ?_) _
  clear hN hA hsl hRv
  have hdn : ((((N x y).length - 1 : Nat) : Int) == 0) = decide ((N x y).length = 1) := by
    by_cases h1 : (N x y).length = 1
    · rw [h1]; rfl
    · rw [decide_eq_false h1, beq_eq_false_iff_ne]; omega
  by_cases h1 : (N x y).length = 1
  · have hel : ((N x y).eraseIdx i).length = (N x y).length - 1 ∧ (N x y).eraseIdx i = [] := ⟨helen, List.length_eq_zero_iff.1 (by rw [helen, h1])⟩
    have hz : ((((N x y).length - 1 : Nat) : Int) == 0) = true := by rw [hdn]; exact decide_eq_true h1
    clear hdn helen h1
    generalize hLL : (N x y).length - 1 = LL at *
    clear hLL
    go_wp2_with fail
    have hS1 : Bl W1 W1.drew := (Below.refl _ _).drew
    refine wp_region_det [0, 1, 2, 3, 4] (fun W => At 68 W g #[.map (some b), .int .u64 side, .int .i64 lost] ∧ At 33 W gx #[.int .i64 x, .int .i64 y]) (Bl W1) (by kernel_rfl) hS1 ?_
    refine wpDet_take ?vC0 (Bl.stays W1) (fun W h => ⟨hD.net.below h, hD.lk.below h⟩) (i := 0) rfl (by kernel_rfl) (by kernel_rfl) (by kernel_rfl) (by kernel_rfl) (fun _ _ _ h => h) (Gives.value (by rfl) ?yC0) ?rC0
    case yC0 => (intro w' hSw; go_simp; try with_reducible rfl)
    (try simp only [Act.put, List.getElem_toArray, List.getElem_cons_zero, List.getElem_cons_succ, List.setIfInBounds_toArray, List.set_cons_zero, List.set_cons_succ])
    refine wpDet_take ?vC1 (Bl.stays W1) (fun W h => ⟨hD.net.below h, hD.lk.below h⟩) (i := 1) rfl (by kernel_rfl) (by kernel_rfl) (by kernel_rfl) (by kernel_rfl) (fun _ _ _ h => h) (Gives.value (by rfl) ?yC1) ?rC1
    case yC1 => (intro w' hSw; go_simp; try with_reducible rfl)
    (try simp only [Act.put, List.getElem_toArray, List.getElem_cons_zero, List.getElem_cons_succ, List.setIfInBounds_toArray, List.set_cons_zero, List.set_cons_succ])
    refine wpDet_take ?vC2 (Bl.stays W1) (fun W h => ⟨hD.net.below h, hD.lk.below h⟩) (i := 2) rfl (by kernel_rfl) (by kernel_rfl) (by kernel_rfl) (by kernel_rfl) (fun _ _ _ h => h) (Gives.value (by rfl) ?yC2) ?rC2
    case yC2 => (intro w' hSw; go_simp; try with_reducible rfl)
    (try simp only [Act.put, List.getElem_toArray, List.getElem_cons_zero, List.getElem_cons_succ, List.setIfInBounds_toArray, List.set_cons_zero, List.set_cons_succ])
    refine wpDet_take ?vC3 (Bl.stays W1) (fun W h => ⟨hD.net.below h, hD.lk.below h⟩) (i := 3) rfl (by kernel_rfl) (by kernel_rfl) (by kernel_rfl) (by kernel_rfl) (fun _ _ _ h => h) (Gives.value (by rfl) ?yC3) ?rC3
    case yC3 => (intro w' hSw; have hz0 := hSw.1.cell 0; go_simp; try with_reducible rfl)
    (try simp only [Act.put, List.getElem_toArray, List.getElem_cons_zero, List.getElem_cons_succ, List.setIfInBounds_toArray, List.set_cons_zero, List.set_cons_succ])
    refine wpDet_take _ (Bl.stays W1) (fun W h => ⟨hD.net.below h, hD.lk.below h⟩) (i := 4) rfl (by kernel_rfl) (by kernel_rfl) (by kernel_rfl) (by kernel_rfl) (fun _ _ _ h => h) (Gives.of_yields (yieldsIf_load_mid (by rfl) _ _ rfl _ _ rfl _ _ (fun W h => At.rangeB h.2 (Below.refl _ _)) Try.underlying33 rfl sizeLk)) ?_
    (try simp only [Act.put, List.getElem_toArray, List.getElem_cons_zero, List.getElem_cons_succ, List.setIfInBounds_toArray, List.set_cons_zero, List.set_cons_succ])
    refine wpDet_ready (rs := [5]) (by kernel_rfl) (by simp) (AllDet.cons rfl (fun V hV K hK => ?_) AllDet.nil)
    rw [if_pos (by rfl)]
    have hDV := Dp.stays _ _ _ _ _ _ _ _ _ _ _ _ _ _ _ _ _ _ hD hV
    obtain ⟨o2, hrun, hfin⟩ := hDV.map.del (Keyed.of_law linkLaw) mapT 0 (key_ok hx hy)
    refine wp_del (.tmp 23) (.tmp 24) 66 33 rfl (.map (some b)) (lkV x y) rfl rfl (.tuple #[]) (setBlock V b o2) hrun ?_
    have hNB := Dp.gone hDV hel hfin
    have hBz : BelF Z B g b w (setBlock V b o2) := hDV.bel.trans (BelF.exb (Ex.setB V b o2) hDV.lo.2 hDV.map.lt hDV.zz.1.2.1.2)
    have hBz2 : B ≤ (setBlock V b o2).heap.size := Nat.le_trans hDV.sz (Ex.setB V b o2).size
    refine hK.out (fun W => NB Z W B g b (n + 1) side lost (upN N x y ((N x y).eraseIdx i)) (upR R x y (.slice (some ⟨r, 0, none⟩) (LL) cap)) ∧ BelF Z B g b w W ∧ B ≤ W.heap.size ∧ At 33 W gx #[.int .i64 x, .int .i64 y]) _ _ (fun W W' h hb => ⟨h.1.below hb, h.2.1.bl hb h.2.2.1, Nat.le_trans h.2.2.1 hb.size, h.2.2.2.below hb⟩) (fun _ W h => ⟨h.1.blk, h.2.2.2⟩) ⟨hNB, hBz, hBz2, hDV.lk.ex (Ex.setB V b o2) hgxb⟩ ?_
    clear hK K hV hrun hfin hNB hBz hBz2 hDV
    (try simp only [Act.put, List.getElem_toArray, List.getElem_cons_zero, List.getElem_cons_succ, List.setIfInBounds_toArray, List.set_cons_zero, List.set_cons_succ])
    refine wpDet_done (by kernel_rfl) (fun Wz hV => ?_) _
    obtain ⟨hNz, hBz, _⟩ := hV
    go_wp2_with fail
    exact bodyPost_ret (results_none rfl _ _ _) rfl ⟨rfl, ⟨_, hNz⟩, hBz⟩
  · have hel : ((N x y).eraseIdx i).length = (N x y).length - 1 ∧ (N x y).eraseIdx i ≠ [] := ⟨helen, fun e => by rw [e] at helen; simp at helen; omega⟩
    have hz : ((((N x y).length - 1 : Nat) : Int) == 0) = false := by rw [hdn]; exact decide_eq_false h1
    clear hdn helen h1
    generalize hLL : (N x y).length - 1 = LL at *
    clear hLL
    go_wp2_with fail
    have hS1 : Bl W1 W1.drew := (Below.refl _ _).drew
    refine wp_region_det [0, 1, 2, 3, 4, 5] (fun W => At 68 W g #[.map (some b), .int .u64 side, .int .i64 lost] ∧ At 33 W gx #[.int .i64 x, .int .i64 y]) (Bl W1) (by kernel_rfl) hS1 ?_
    refine wpDet_take ?vE0 (Bl.stays W1) (fun W h => ⟨hD.net.below h, hD.lk.below h⟩) (i := 0) rfl (by kernel_rfl) (by kernel_rfl) (by kernel_rfl) (by kernel_rfl) (fun _ _ _ h => h) (Gives.value (by rfl) ?yE0) ?rE0
    case yE0 => (intro w' hSw; go_simp; try with_reducible rfl)
    (try simp only [Act.put, List.getElem_toArray, List.getElem_cons_zero, List.getElem_cons_succ, List.setIfInBounds_toArray, List.set_cons_zero, List.set_cons_succ])
    refine wpDet_take ?vE1 (Bl.stays W1) (fun W h => ⟨hD.net.below h, hD.lk.below h⟩) (i := 1) rfl (by kernel_rfl) (by kernel_rfl) (by kernel_rfl) (by kernel_rfl) (fun _ _ _ h => h) (Gives.value (by rfl) ?yE1) ?rE1
    case yE1 => (intro w' hSw; go_simp; try with_reducible rfl)
    (try simp only [Act.put, List.getElem_toArray, List.getElem_cons_zero, List.getElem_cons_succ, List.setIfInBounds_toArray, List.set_cons_zero, List.set_cons_succ])
    refine wpDet_take ?vE2 (Bl.stays W1) (fun W h => ⟨hD.net.below h, hD.lk.below h⟩) (i := 2) rfl (by kernel_rfl) (by kernel_rfl) (by kernel_rfl) (by kernel_rfl) (fun _ _ _ h => h) (Gives.value (by rfl) ?yE2) ?rE2
    case yE2 => (intro w' hSw; go_simp; try with_reducible rfl)
    (try simp only [Act.put, List.getElem_toArray, List.getElem_cons_zero, List.getElem_cons_succ, List.setIfInBounds_toArray, List.set_cons_zero, List.set_cons_succ])
    refine wpDet_take ?vE3 (Bl.stays W1) (fun W h => ⟨hD.net.below h, hD.lk.below h⟩) (i := 3) rfl (by kernel_rfl) (by kernel_rfl) (by kernel_rfl) (by kernel_rfl) (fun _ _ _ h => h) (Gives.value (by rfl) ?yE3) ?rE3
    case yE3 => (intro w' hSw; have hz0 := hSw.1.cell 0; go_simp; try with_reducible rfl)
    (try simp only [Act.put, List.getElem_toArray, List.getElem_cons_zero, List.getElem_cons_succ, List.setIfInBounds_toArray, List.set_cons_zero, List.set_cons_succ])
    refine wpDet_take _ (Bl.stays W1) (fun W h => ⟨hD.net.below h, hD.lk.below h⟩) (i := 4) rfl (by kernel_rfl) (by kernel_rfl) (by kernel_rfl) (by kernel_rfl) (fun _ _ _ h => h) (Gives.of_yields (yieldsIf_load_mid (by rfl) _ _ rfl _ _ rfl _ _ (fun W h => At.rangeB h.2 (Below.refl _ _)) Try.underlying33 rfl sizeLk)) ?_
    (try simp only [Act.put, List.getElem_toArray, List.getElem_cons_zero, List.getElem_cons_succ, List.setIfInBounds_toArray, List.set_cons_zero, List.set_cons_succ])
    refine wpDet_take ?vE5 (Bl.stays W1) (fun W h => ⟨hD.net.below h, hD.lk.below h⟩) (i := 5) rfl (by kernel_rfl) (by kernel_rfl) (by kernel_rfl) (by kernel_rfl) (fun _ _ _ h => h) (Gives.value (by rfl) ?yE5) ?rE5
    case yE5 => (intro w' hSw; go_simp; try with_reducible rfl)
    (try simp only [Act.put, List.getElem_toArray, List.getElem_cons_zero, List.getElem_cons_succ, List.setIfInBounds_toArray, List.set_cons_zero, List.set_cons_succ])
    refine wpDet_ready (rs := [6]) (by kernel_rfl) (by simp) (AllDet.cons rfl (fun V hV K hK => ?_) AllDet.nil)
    rw [if_pos (by rfl)]
    have hDV := Dp.stays _ _ _ _ _ _ _ _ _ _ _ _ _ _ _ _ _ _ hD hV
    obtain ⟨o2, hrun, hfin⟩ := hDV.map.put (Keyed.of_law linkLaw) mapT (key_ok hx hy) (.slice (some ⟨r, 0, none⟩) (LL) cap)
    refine wp_put 66 (.tmp 28) (.tmp 29) (.tmp 30) rfl (.map (some b)) (lkV x y) (.slice (some ⟨r, 0, none⟩) (LL) cap) rfl rfl rfl (setBlock V b o2) hrun ?_
    have hNB := Dp.back hDV hel hfin
    have hBz : BelF Z B g b w (setBlock V b o2) := hDV.bel.trans (BelF.exb (Ex.setB V b o2) hDV.lo.2 hDV.map.lt hDV.zz.1.2.1.2)
    have hBz2 : B ≤ (setBlock V b o2).heap.size := Nat.le_trans hDV.sz (Ex.setB V b o2).size
    refine hK.out (fun W => NB Z W B g b (n + 1) side lost (upN N x y ((N x y).eraseIdx i)) (upR R x y (.slice (some ⟨r, 0, none⟩) (LL) cap)) ∧ BelF Z B g b w W ∧ B ≤ W.heap.size ∧ At 33 W gx #[.int .i64 x, .int .i64 y]) _ _ (fun W W' h hb => ⟨h.1.below hb, h.2.1.bl hb h.2.2.1, Nat.le_trans h.2.2.1 hb.size, h.2.2.2.below hb⟩) (fun _ W h => ⟨h.1.blk, h.2.2.2⟩) ⟨hNB, hBz, hBz2, hDV.lk.ex (Ex.setB V b o2) hgxb⟩ ?_
    clear hK K hV hrun hfin hNB hBz hBz2 hDV
    (try simp only [Act.put, List.getElem_toArray, List.getElem_cons_zero, List.getElem_cons_succ, List.setIfInBounds_toArray, List.set_cons_zero, List.set_cons_succ])
    refine wpDet_done (by kernel_rfl) (fun Wz hV => ?_) _
    obtain ⟨hNz, hBz, _⟩ := hV
    go_wp2_with fail
    exact bodyPost_end (results_none rfl _ _ _) rfl ⟨rfl, ⟨_, hNz⟩, hBz⟩

end Go.Proofs.Ytmnipfdcbmamnaa.M
