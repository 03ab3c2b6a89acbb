/-
  Own text: rising: no call of a greater version ended ahead of one's beginning.
-/
import Derived.Test.YtmfmjoibofadlaaORb
namespace Go.Proofs.Ytmfmjoibofadlaa.M
open Go.ChangeShapes Go.WideShapes Go.ChangeAt Go.RowKit Go.Shelf
attribute [local go_sem] Oper.semAt_some
set_option linter.unusedSimpArgs false

/-- Versions fall. -/
def Desc (L : List Lo) {n : Nat} (pre : List (Nat × Ix n)) : Prop := pre.Pairwise fun a b => (L.getD b.2.1 .z0).v ≤ (L.getD a.2.1 .z0).v

/-- What the least ends are, of what has come. -/
structure InvO (L : List Lo) {n : Nat} (pre : List (Nat × Ix n)) (le gr ve : Int) : Prop where
  le : ∀ x ∈ pre, (L.getD x.2.1 .z0).ans = true → le ≤ (L.getD x.2.1 .z0).e
  gr : ∀ x ∈ pre, ve < (L.getD x.2.1 .z0).v → (L.getD x.2.1 .z0).ans = true → gr ≤ (L.getD x.2.1 .z0).e

def GoodO (L : List Lo) {n : Nat} (pre : List (Nat × Ix n)) : Prop := ∀ a ∈ pre, ∀ b ∈ pre, (L.getD a.2.1 .z0).v < (L.getD b.2.1 .z0).v → bfr (L.getD b.2.1 .z0) (L.getD a.2.1 .z0) = false

theorem bfr_no {a b : Lo} (h : a.ans = true → b.b ≤ a.e) : bfr a b = false := by
  cases hb : bfr a b with
  | false => rfl
  | true =>
    have h2 := bfr_iff.1 hb
    have h3 := h (ans_pos h2.1)
    omega

theorem inv_step {L : List Lo} {n : Nat} {pre : List (Nat × Ix n)} {x : Nat × Ix n} {le gr ve gr2 le2 : Int} (hD : Desc L (pre ++ [x])) (hI : InvO L pre le gr ve) (hG : GoodO L pre)
    (hg : ((L.getD x.2.1 .z0).v = ve ∧ gr2 = gr) ∨ gr2 = le) (hb : (L.getD x.2.1 .z0).b ≤ gr2) (hl : le2 ≤ le ∧ ((L.getD x.2.1 .z0).ans = true → le2 ≤ (L.getD x.2.1 .z0).e)) :
    InvO L (pre ++ [x]) le2 gr2 (L.getD x.2.1 .z0).v ∧ GoodO L (pre ++ [x]) := by
  have hlo : ∀ y ∈ pre, (L.getD x.2.1 .z0).v ≤ (L.getD y.2.1 .z0).v := fun y hy => (List.pairwise_append.1 hD).2.2 y hy x (List.mem_singleton.2 rfl)
  have hgr : ∀ y ∈ pre, (L.getD x.2.1 .z0).v < (L.getD y.2.1 .z0).v → (L.getD y.2.1 .z0).ans = true → gr2 ≤ (L.getD y.2.1 .z0).e := fun y hy hv ha => by
    rcases hg with ⟨h1, rfl⟩ | rfl
    · exact hI.gr y hy (by omega) ha
    · exact hI.le y hy ha
  refine ⟨⟨fun y hy ha => ?_, fun y hy hv ha => ?_⟩, fun a ha b hb2 hv => ?_⟩
  · rcases List.mem_append.1 hy with h | h
    · have := hI.le y h ha
      have := hl.1
      omega
    · rw [List.mem_singleton.1 h] at ha ⊢
      exact hl.2 ha
  · rcases List.mem_append.1 hy with h | h
    · exact hgr y h hv ha
    · rw [List.mem_singleton.1 h] at hv
      omega
  · rcases List.mem_append.1 ha with h | h
    · rcases List.mem_append.1 hb2 with k | k
      · exact hG a h b k hv
      · rw [List.mem_singleton.1 k] at hv
        have := hlo a h
        omega
    · rcases List.mem_append.1 hb2 with k | k
      · rw [List.mem_singleton.1 h] at hv ⊢
        exact bfr_no fun hans => by have := hgr b k hv hans; omega
      · rw [List.mem_singleton.1 h, List.mem_singleton.1 k] at hv
        omega

theorem Desc.init {L : List Lo} {n : Nat} {pre : List (Nat × Ix n)} {x : Nat × Ix n} (h : Desc L (pre ++ [x])) : Desc L pre := (List.pairwise_append.1 h).1

theorem at_kept {W W' : World} {row : Option Nat} {t : TypeId} {g : Nat} {cs : Array Value} (h : At t W g cs) (hg : W.grownBy W' row) (hrow : ∀ r, row = some r → ∃ o : Obj, W.heap[r]? = some o ∧ o.isCells = false) : At t W' g cs := by
  refine (hg.block g (At.lt h) fun e => ?_).trans h
  obtain ⟨o, ho, hc⟩ := hrow g e.symm
  rw [h] at ho
  cases ho
  cases hc

/-- What lies between two rounds. -/
structure RI (L : List Lo) (n : Nat) (t1 t2 t3 : TypeId) (b1 b2 b3 b4 b5 M : Nat) (ls : Value) (pre : List (Nat × Ix n)) (le gr ve : Int) (W : World) : Prop where
  a1 : At t1 W b1 #[ls]
  a2 : At t2 W b2 #[.bool false]
  a3 : At t3 W b3 #[.int .i64 le]
  a4 : At t3 W b4 #[.int .i64 gr]
  a5 : At t3 W b5 #[.int .i64 ve]
  m : M ≤ W.heap.size
  i : Desc L pre → InvO L pre le gr ve ∧ GoodO L pre

theorem RI.own {L : List Lo} {n : Nat} {t1 t2 t3 : TypeId} {b1 b2 b3 b4 b5 M : Nat} {ls : Value} : Own (fun (pre : List (Nat × Ix n)) W => ∃ le gr ve, RI L n t1 t2 t3 b1 b2 b3 b4 b5 M ls pre le gr ve W) := fun _ _ _ _ ⟨le, gr, ve, h⟩ hg hr =>
  ⟨le, gr, ve, at_kept h.a1 hg hr, at_kept h.a2 hg hr, at_kept h.a3 hg hr, at_kept h.a4 hg hr, at_kept h.a5 hg hr, Nat.le_trans h.m hg.size, h.i⟩

theorem keepsFrom_ch {S : Nat → Prop} {W W' : World} {M : Nat} (h : Ch S W W') (hS : ∀ k, S k → k < M) : KeepsFrom M W W' :=
  ⟨h.size, fun k _ hk ho _ => (h.block k (Array.getElem?_eq_some_iff.1 ho).1 fun e => by have := hS k e; omega).trans ho⟩

theorem keepB_ch {S : Nat → Prop} {W W' : World} {s b : Nat} (h : Ch S W W') (h1 : s < W.heap.size ∧ ¬ S s) (h2 : b < W.heap.size ∧ ¬ S b) : KeepB s b W W' := fun a ha => by
  rcases ha with e | e
  · exact h.cell (by rw [e]; exact h1.1) (by rw [e]; exact h1.2)
  · exact h.cell (by rw [e]; exact h2.1) (by rw [e]; exact h2.2)

theorem ris_of {L : List Lo} {n : Nat} {ys : List Nat} (hB : ByRow L ys) (y : Nat → Ix n) (hy : ∀ j, (y j).1 = ys.getD j 0) (h : Desc L (upTo (dn y ys.length) ys.length) → GoodO L (upTo (dn y ys.length) ys.length)) : risO L := by
  have hv : ∀ a b, a < b → b < ys.length → (L.getD (ys.getD a 0) .z0).v ≤ (L.getD (ys.getD b 0) .z0).v := fun a b hab hb => by
    have h1 := (List.pairwise_iff_getElem.1 hB.srt) a b (by omega) hb hab
    rw [List.getD_eq_getElem?_getD (l := ys), List.getElem?_eq_getElem (by omega), List.getD_eq_getElem?_getD (l := ys), List.getElem?_eq_getElem hb]
    show (L.getD ys[a] .z0).v ≤ (L.getD ys[b] .z0).v
    unfold lessO at h1
    omega
  have hD : Desc L (upTo (dn y ys.length) ys.length) := by
    unfold Desc upTo
    rw [List.pairwise_map, List.pairwise_iff_getElem]
    intro i j hi hj hij
    simp only [List.length_range] at hi hj
    simp only [List.getElem_range, dn, hy]
    exact hv _ _ (by omega) (by omega)
  have hG := h hD
  have hin : ∀ i, i ∈ ys → ∃ x ∈ upTo (dn y ys.length) ys.length, x.2.1 = i := fun i hi => by
    obtain ⟨a, ha, rfl⟩ := List.getElem_of_mem hi
    refine ⟨dn y ys.length (ys.length - 1 - a), ?_, ?_⟩
    · unfold upTo
      exact List.mem_map.2 ⟨ys.length - 1 - a, List.mem_range.2 (by omega), rfl⟩
    · simp only [dn, hy]
      rw [show ys.length - 1 - (ys.length - 1 - a) = a by omega, List.getD_eq_getElem?_getD, List.getElem?_eq_getElem ha]
      rfl
  intro i j hi hj hci hcj hlt
  obtain ⟨a, ha, rfl⟩ := hin i ((hB.mem i).2 ⟨hi, hci⟩)
  obtain ⟨b, hb, rfl⟩ := hin j ((hB.mem j).2 ⟨hj, hcj⟩)
  exact hG a ha b hb hlt

theorem reg_join {c : Code} {F : Fence} {n : Nat} {P : Program} {Q : Exit → Act → World → Prop} {a : Act} {w : World} {A : Act} {W' : World} (h : c.wpIn F n P (fun e a' w' => e = .normal ∧ a' = A ∧ w' = W') a w) (k : Q .normal A W') : c.wpIn F n P Q a w :=
  wpIn_mono h fun e a' w' ⟨h1, h2, h3⟩ => by subst h1 h2 h3; exact k

theorem opIn_value {F : Fence} {n : Nat} {P : Program} {o : Oper} {a : Act} {w : World} {K : Act → World → Prop} {Q : Exit → Act → World → Prop} (hF : ∀ f, F.fn f) (hp : ∀ c, o.op ≠ .defer c) (v : Value) (w' : World) (h : (execOp a.eval o).run P w = .ok (.value v) w') (hk : K (a.put o.dst v) w') : Oper.wpIn F n P o a w K Q := by
  unfold Oper.wpIn
  refine ⟨fun f _ => hF f, ?_⟩
  rw [Oper.semAt_plain F _ _ hp, h]
  exact hk

theorem opIn_skip {F : Fence} {n : Nat} {P : Program} {o : Oper} {a : Act} {w : World} {K : Act → World → Prop} {Q : Exit → Act → World → Prop} (hF : ∀ f, F.fn f) (hp : ∀ c, o.op ≠ .defer c) (w' : World) (h : (execOp a.eval o).run P w = .ok .skip w') (hk : K (a.put o.dst undef) w') : Oper.wpIn F n P o a w K Q := by
  unfold Oper.wpIn
  refine ⟨fun f _ => hF f, ?_⟩
  rw [Oper.semAt_plain F _ _ hp, h]
  exact hk

theorem own_at {t : TypeId} {g : Nat} {cs : Array Value} {α : Type} : Own (fun (_ : List α) W => At t W g cs) := fun _ _ _ _ h hg hr => at_kept h hg hr

set_option maxRecDepth 100000 in
set_option maxHeartbeats 8000000 in
theorem rising_any (p : Option Addr) (n c : Nat) (L : List Lo) (w : World) (hr : RdO w p n c L) (hn : n ≤ 24) (_hR : rightO L = 0) : RiseC p n c L w := by
  unfold RiseC
  have hLn : L.length = n := hr.len
  have hb5 : Below w.heap.size w (((((w.alloc (.cells #[.slice p n c] 22)).alloc (.cells #[.bool false] 4)).alloc (.cells #[.int .i64 9223372036854775807] 3)).alloc (.cells #[.int .i64 9223372036854775807] 3)).alloc (.cells #[.int .i64 (-1)] 3)) := by
    refine (((((Below.refl _ w).alloc (Nat.le_refl _) _).alloc ?_ _).alloc ?_ _).alloc ?_ _).alloc ?_ _ <;> simp <;> omega
  have hBy := by_any p n c L (((((w.alloc (.cells #[.slice p n c] 22)).alloc (.cells #[.bool false] 4)).alloc (.cells #[.int .i64 9223372036854775807] 3)).alloc (.cells #[.int .i64 9223372036854775807] 3)).alloc (.cells #[.int .i64 (-1)] 3)) (hr.below hb5) (by omega)
  have s1 : (w.alloc (.cells #[.slice p n c] 22)).heap.size = w.heap.size + 1 := by simp
  have s2 : ((w.alloc (.cells #[.slice p n c] 22)).alloc (.cells #[.bool false] 4)).heap.size = w.heap.size + 1 + 1 := by simp
  have s3 : (((w.alloc (.cells #[.slice p n c] 22)).alloc (.cells #[.bool false] 4)).alloc (.cells #[.int .i64 9223372036854775807] 3)).heap.size = w.heap.size + 1 + 1 + 1 := by simp
  have s4 : ((((w.alloc (.cells #[.slice p n c] 22)).alloc (.cells #[.bool false] 4)).alloc (.cells #[.int .i64 9223372036854775807] 3)).alloc (.cells #[.int .i64 9223372036854775807] 3)).heap.size = w.heap.size + 1 + 1 + 1 + 1 := by simp
  have s5 : (((((w.alloc (.cells #[.slice p n c] 22)).alloc (.cells #[.bool false] 4)).alloc (.cells #[.int .i64 9223372036854775807] 3)).alloc (.cells #[.int .i64 9223372036854775807] 3)).alloc (.cells #[.int .i64 (-1)] 3)).heap.size = w.heap.size + 5 := by simp
  have a1 : At 22 (((((w.alloc (.cells #[.slice p n c] 22)).alloc (.cells #[.bool false] 4)).alloc (.cells #[.int .i64 9223372036854775807] 3)).alloc (.cells #[.int .i64 9223372036854775807] 3)).alloc (.cells #[.int .i64 (-1)] 3)) w.heap.size #[.slice p n c] := ((((At.new _ _ _).alloc _).alloc _).alloc _).alloc _
  have a2 : At 4 (((((w.alloc (.cells #[.slice p n c] 22)).alloc (.cells #[.bool false] 4)).alloc (.cells #[.int .i64 9223372036854775807] 3)).alloc (.cells #[.int .i64 9223372036854775807] 3)).alloc (.cells #[.int .i64 (-1)] 3)) (w.heap.size + 1) #[.bool false] := by rw [← s1]; exact (((At.new _ _ _).alloc _).alloc _).alloc _
  have a3 : At 3 (((((w.alloc (.cells #[.slice p n c] 22)).alloc (.cells #[.bool false] 4)).alloc (.cells #[.int .i64 9223372036854775807] 3)).alloc (.cells #[.int .i64 9223372036854775807] 3)).alloc (.cells #[.int .i64 (-1)] 3)) (w.heap.size + 1 + 1) #[.int .i64 9223372036854775807] := by rw [← s2]; exact ((At.new _ _ _).alloc _).alloc _
  have a4 : At 3 (((((w.alloc (.cells #[.slice p n c] 22)).alloc (.cells #[.bool false] 4)).alloc (.cells #[.int .i64 9223372036854775807] 3)).alloc (.cells #[.int .i64 9223372036854775807] 3)).alloc (.cells #[.int .i64 (-1)] 3)) (w.heap.size + 1 + 1 + 1) #[.int .i64 9223372036854775807] := by rw [← s3]; exact (At.new _ _ _).alloc _
  have a5 : At 3 (((((w.alloc (.cells #[.slice p n c] 22)).alloc (.cells #[.bool false] 4)).alloc (.cells #[.int .i64 9223372036854775807] 3)).alloc (.cells #[.int .i64 9223372036854775807] 3)).alloc (.cells #[.int .i64 (-1)] 3)) (w.heap.size + 1 + 1 + 1 + 1) #[.int .i64 (-1)] := by rw [← s4]; exact At.new _ _ _
  clear s1 s2 s3 s4
  refine (callsIn_wide (n := 9)).1 ?_
  refine callsIn_of_wp_marks Try.func35 rfl trivial ?_ rfl
  simp only [Try.ntmps35, List.size_toArray, List.length_cons, List.length_nil, Nat.reduceAdd, Nat.reduceSub, Array.replicate_succ, Array.replicate_zero, List.push_toArray, List.append_toArray, List.nil_append, List.cons_append]
  gi_wp2
  generalize (((((w.alloc (.cells #[.slice p n c] 22)).alloc (.cells #[.bool false] 4)).alloc (.cells #[.int .i64 9223372036854775807] 3)).alloc (.cells #[.int .i64 9223372036854775807] 3)).alloc (.cells #[.int .i64 (-1)] 3)) = w5 at *
  refine ⟨trivial, ((callsIn_wide (n := 8)).2 hBy).mono ?_⟩
  rintro e w6 ⟨q, d, ys, rfl, hRow, hrd, hb6, hnew⟩
  clear hBy
  gi_wp2
  refine ⟨trivial, (backm_in Fence.wide 8 trivial rfl _ _ _ _).mono ?_⟩
  rintro e w7 ⟨rfl, rfl⟩
  have hyn : ∀ j, ys.getD j 0 < max n 1 := fun j => by
    rcases Nat.lt_or_ge j ys.length with hj | hj
    · have := (hRow.mem (ys.getD j 0)).1 (by rw [List.getD_eq_getElem?_getD, List.getElem?_eq_getElem hj]; exact List.getElem_mem _)
      omega
    · rw [List.getD_eq_getElem?_getD, List.getElem?_eq_none hj]
      show 0 < max n 1
      omega
  have hn0 : 0 < ys.length → 0 < n := fun h => by
    have := (hRow.mem (ys.getD 0 0)).1 (by rw [List.getD_eq_getElem?_getD, List.getElem?_eq_getElem h]; exact List.getElem_mem _)
    omega
  have hyl : ys.length ≤ 1000 := by
    have hnd : ys.Nodup := List.Pairwise.imp (fun {a b} (h : lessO L a b) (e : a = b) => lessO_irr (L := L) (i := b) (by rw [e] at h; exact h)) hRow.srt
    have hss : ys ⊆ List.range L.length := fun i hi => List.mem_range.2 ((hRow.mem i).1 hi).1
    have := List.Nodup.length_le_of_subset hnd hss
    rw [List.length_range] at this
    omega
  have hb67 := below_alloc w6 (.cells #[.slice q ys.length d] 30)
  have hrd7 := hrd.below hb67
  have h67 : (w6.alloc (.cells #[.slice q ys.length d] 30)).heap.size = w6.heap.size + 1 := by simp
  have hBs : (w6.alloc (.cells #[.slice q ys.length d] 30)).cell? ⟨w6.heap.size, 0, none⟩ = some (.slice q ys.length d) := by simp
  have hb57 := hb6.trans (hb67.mono hb6.size)
  have hb7 := hb5.trans (hb57.mono (by omega))
  have c1 := a1.below hb57
  have c2 := a2.below hb57
  have c3 := a3.below hb57
  have c4 := a4.below hb57
  have c5 := a5.below hb57
  have hs6 := hb6.size
  obtain ⟨b, off, hq, hc, hbl, hb5'⟩ : ∃ b off, (0 < ys.length → q = some ⟨b, off, none⟩) ∧ (∀ j, j < ys.length → (w6.alloc (.cells #[.slice q ys.length d] 30)).cell? ⟨b, off + j, none⟩ = some (.int .i64 ((ys.getD j 0 : Nat) : Int))) ∧ b < w6.heap.size + 1 ∧ w.heap.size + 5 ≤ b := by
    rcases Nat.eq_zero_or_pos ys.length with h | h
    · exact ⟨w6.heap.size, 0, fun h0 => by omega, fun j hj => by omega, by omega, by omega⟩
    · obtain ⟨b, o, e, hcs⟩ := hrd7.cells h
      have h1 := hnew h _ e
      refine ⟨b, o, fun _ => e, fun j hj => ?_, ?_, by simp only at h1; omega⟩
      · rw [hcs j hj]
        congr 2
        rw [List.getD_eq_getElem?_getD, List.getElem?_map, List.getElem?_eq_getElem hj, List.getD_eq_getElem?_getD, List.getElem?_eq_getElem hj]
        rfl
      · have := World.block_lt_of_cell? _ _ (hcs 0 h)
        simp only [h67] at this
        omega
  gi_wp2
  generalize hw7 : (w6.alloc (.cells #[.slice q ys.length d] 30)) = w7 at *
  have hM7 : w7.heap.size = w6.heap.size + 1 := h67
  refine wpIn_rangeFunc_ownG rfl (by omega) (gf := 60) (lb := #[.pointer (some ⟨w6.heap.size, 0, none⟩)]) rfl trivial (enters_of Try.func60 (by kernel_rfl) rfl)
    (back_stops (nn := max n 1) Fence.wide 8 trivial rfl (by omega) w6.heap.size b off ys.length d q (fun j => ⟨ys.getD j 0, hyn j⟩) hyl hq w7 hBs hc) KeepB.trans ?keep (Below.refl _ _) (fun _ => rfl)
    (fun pre W => (∃ le gr ve, RI L (max n 1) 22 4 3 w.heap.size (w.heap.size + 1) (w.heap.size + 1 + 1) (w.heap.size + 1 + 1 + 1) (w.heap.size + 1 + 1 + 1 + 1) w7.heap.size (.slice p n c) pre le gr ve W) ∧ Below w.heap.size w W)
    (fun cd pre W => (cd = .ret ∧ At 4 W (w.heap.size + 1) #[.bool false]) ∧ Below w.heap.size w W)
    (OwnFrom.and (Own.from RI.own _) (ownFrom_below (Nat.le_refl _) (by omega)))
    (fun cd => OwnFrom.and (Own.from (fun _ _ _ _ hs hg hr => ⟨hs.1, at_kept hs.2 hg hr⟩) _) (ownFrom_below (Nat.le_refl _) (by omega)))
    ⟨⟨9223372036854775807, 9223372036854775807, -1, c1, c2, c3, c4, c5, Nat.le_refl _, fun _ => ⟨⟨(fun x hx => absurd hx (by simp)), (fun x hx => absurd hx (by simp))⟩, (fun a ha => absurd ha (by simp))⟩⟩, hb7⟩
    (fun x => { tmps := #[.slice p n c, .pointer (some ⟨w.heap.size, 0, none⟩), .pointer (some ⟨(w.heap.size + 1), 0, none⟩), .pointer (some ⟨(w.heap.size + 1 + 1), 0, none⟩), .pointer (some ⟨(w.heap.size + 1 + 1 + 1), 0, none⟩), .pointer (some ⟨(w.heap.size + 1 + 1 + 1 + 1), 0, none⟩), undef, .int .i64 (x.2.1 : Int), undef, .slice p n c, .slice q ys.length d, .func (.func 60) #[] #[.pointer (some ⟨w6.heap.size, 0, none⟩)], .int .i64 (x.1 : Int), .int .i64 (x.2.1 : Int), undef, undef, undef, undef, undef, undef, undef, undef, undef, undef, undef, undef, undef, undef, undef, undef, undef, undef, undef, undef, undef], defers := [] }) ?assign ?body ?done ?stop
  case keep =>
    intro W l o o' hl _ _ _
    intro a ha
    refine World.cell?_of_block (World.putObj_heap_other ?_)
    rcases ha with e | e <;> omega
  case assign =>
    intro l x W K hK
    unfold enc2
    gi_wp2
    exact hK
  case body =>
    rintro l pre ⟨xi, k, hk⟩ W ⟨⟨le, gr, ve, hI⟩, hB⟩ hlt
    have hn1 : 0 < n := hn0 (by omega)
    have hkn : k < n := by omega
    obtain ⟨bl, ol, hpe, hcr⟩ := (hr.below hB).cells hn1
    obtain ⟨x0, x1, x2, x3, x4⟩ := hcr k hkn
    have hWs : w6.heap.size < W.heap.size ∧ b < W.heap.size := by have := hI.m; omega
    have HS : Hid (∀ le2 gr2 : Int, ((L.getD k .z0).v = ve ∧ gr2 = gr) ∨ gr2 = le → (L.getD k .z0).b ≤ gr2 → (le2 ≤ le ∧ ((L.getD k .z0).ans = true → le2 ≤ (L.getD k .z0).e)) → Desc L (pre ++ [(xi, (⟨k, hk⟩ : Ix (max n 1)))]) → InvO L (pre ++ [(xi, (⟨k, hk⟩ : Ix (max n 1)))]) le2 gr2 (L.getD k .z0).v ∧ GoodO L (pre ++ [(xi, (⟨k, hk⟩ : Ix (max n 1)))])) := fun le2 gr2 h1 h2 h3 hD => inv_step hD (hI.i hD.init).1 (hI.i hD.init).2 h1 h2 h3
    have hA := fun W => answered_any (L.getD k .z0) W
    have hki : (k : Int) < (n : Int) := by omega
    have hk0 : (0 : Int) ≤ (k : Int) := by omega
    obtain ⟨q1, q2, q3, q4, q5, hIm, _⟩ := hI
    clear hcr hc hq hrd hrd7 hRow hnew hyn hn0 hBs c1 c2 c3 c4 c5 a1 a2 a3 a4 a5 hb57 hb67 hb6 hb7 hr
    generalize L.getD k .z0 = lo at *
    obtain ⟨ow, os, ov, ob, oe⟩ := lo
    dsimp only at x0 x1 x2 x3 x4 HS hA
    subst hpe
    have hba := below_alloc W (.cells #[.bool ow, .string os, .int .i64 ov, .int .i64 ob, .int .i64 oe] 29)
    obtain ⟨y0, y1, y2, y3, y4⟩ := Bx.new W ⟨ow, os, ov, ob, oe⟩ 29
    dsimp only at y0 y1 y2 y3 y4
    have r1 := q1.below hba
    have r2 := q2.below hba
    have r3 := q3.below hba
    have r4 := q4.below hba
    have r5 := q5.below hba
    have hB1 := hB.trans (hba.mono hB.size)
    have hch1 : Ch (fun j => j = (w.heap.size + 1 + 1) ∨ j = (w.heap.size + 1 + 1 + 1) ∨ j = (w.heap.size + 1 + 1 + 1 + 1) ∨ j = (w.heap.size + 1)) W (W.alloc (.cells #[.bool ow, .string os, .int .i64 ov, .int .i64 ob, .int .i64 oe] 29)) := Ch.of_below hba _
    have hW1 : W.heap.size < (W.alloc (.cells #[.bool ow, .string os, .int .i64 ov, .int .i64 ob, .int .i64 oe] 29)).heap.size := by simp
    have z1 := At.cell q1 0
    have z3 := At.cell r3 0
    have z5 := At.cell r5 0
    have z4 := At.cell r4 0
    have f4 := At.free r4 0
    have f5 := At.free r5 0
    simp only [List.getElem?_toArray, List.getElem?_cons_zero] at z1 z3 z4 z5
    have hblk : (w.heap.size + 1 + 1 + 1 + 1) < W.heap.size := At.lt q5
    have ry : At 29 (W.alloc (.cells #[.bool ow, .string os, .int .i64 ov, .int .i64 ob, .int .i64 oe] 29)) W.heap.size #[.bool ow, .string os, .int .i64 ov, .int .i64 ob, .int .i64 oe] := At.new _ _ _
    clear q1 q2 q3 q4 q5
    generalize hza : (Lo.mk ow os ov ob oe).ans = za at *
    clear hza
    by_cases hc1 : ov = ve
    · have hc1b : (ov != ve) = false := by simp [hc1]
      have HC1 : Hid (ov = ve) := hc1
      clear hc1
      have hch2 := hch1
      have g1 := r1
      have g2 := r2
      have g3 := r3
      have g4 := r4
      have hvv : (#[Value.int .i64 ve] : Array Value) = #[Value.int .i64 ov] := by rw [HC1.out]
      have g5 := r5
      rw [hvv] at g5
      have gy := ry
      have e3 := At.cell g3 0
      have e4 := At.cell g4 0
      have m0 := At.cell gy 0
      have m1 := At.cell gy 1
      have m2 := At.cell gy 2
      have m3 := At.cell gy 3
      have m4 := At.cell gy 4
      have e2 := At.free g2 0
      have e2c := At.cell g2 0
      have e3f := At.free g3 0
      simp only [List.getElem?_toArray, List.getElem?_cons_zero, List.getElem?_cons_succ] at e2c e3 e4 m0 m1 m2 m3 m4
      by_cases hc2 : ob > gr
      · have hc2b : decide (ob > gr) = true := by simp [hc2]
        clear hc2
        gi_wp2
        have hch9 := hch2.trans ((Ch.setCell (W.alloc (.cells #[.bool ow, .string os, .int .i64 ov, .int .i64 ob, .int .i64 oe] 29)) ⟨(w.heap.size + 1), 0, none⟩ (.bool false)).mono (fun k _ e => .inr (.inr (.inr e))))
        exact ⟨keepsFrom_ch hch9 (fun k hk => by omega), ⟨rfl, (At.setC g2 0 (.bool false) :)⟩, hB.trans (hch9.below (by have := hB.size; omega) (fun k hk => by omega))⟩
      · have hc2b : decide (ob > gr) = false := by simp [hc2]
        have HC2 : Hid (ob ≤ gr) := by show ob ≤ _; omega
        clear hc2
        gi_wp2
        refine ⟨trivial, (CallsIn.inRound l ((callsIn_wide (n := 6)).2 (hA _))).mono ?_⟩
        rintro e w8 ⟨rfl, hb8⟩
        have hch8 := hch2.trans (Ch.of_below hb8 _)
        have hB8 : Below w.heap.size w w8 := hB.trans (hch8.below (by have := hB.size; omega) (fun k hk => by omega))
        have f1 := g1.below hb8
        have f2 := g2.below hb8
        have f3 := g3.below hb8
        have f4 := g4.below hb8
        have f5 := g5.below hb8
        have fy := gy.below hb8
        have hs8 : W.heap.size < w8.heap.size := At.lt fy
        clear g1 g2 g3 g4 g5 gy e2 e2c e3 e3f e4 m0 m1 m2 m3 m4 hA
        have e3 := At.cell f3 0
        have e3f := At.free f3 0
        have m4 := At.cell fy 4
        simp only [List.getElem?_toArray, List.getElem?_cons_zero, List.getElem?_cons_succ] at e3 m4
        cases za with
        | false =>
          gi_wp2
          exact ⟨keepsFrom_ch hch8 (fun k hk => by omega), keepB_ch hch8 ⟨hWs.1, fun hk => by omega⟩ ⟨hWs.2, fun hk => by omega⟩, ⟨le, gr, ov, f1, f2, f3, f4, f5, by omega, HS.out le gr (.inl ⟨HC1.out, rfl⟩) HC2.out ⟨Int.le_refl _, fun h => by cases h⟩⟩, hB8⟩
        | true =>
          gi_wp2
          have hmn : min le oe ≤ le ∧ min le oe ≤ oe := ⟨by omega, by omega⟩
          have hch9 := hch8.trans ((Ch.setCell w8 ⟨(w.heap.size + 1 + 1), 0, none⟩ (.int .i64 (min le oe))).mono (fun k _ e => .inl e))
          have hB9 := hB.trans (hch9.below (by have := hB.size; omega) (fun k hk => by omega))
          have hsz := hch9.size
          exact ⟨keepsFrom_ch hch9 (fun k hk => by omega), keepB_ch hch9 ⟨hWs.1, fun hk => by omega⟩ ⟨hWs.2, fun hk => by omega⟩, ⟨min le oe, gr, ov, f1.otherC _ 0 _ (by omega), f2.otherC _ 0 _ (by omega), (At.setC f3 0 (.int .i64 (min le oe)) :), f4.otherC _ 0 _ (by omega), f5.otherC _ 0 _ (by omega), by omega, HS.out (min le oe) gr (.inl ⟨HC1.out, rfl⟩) HC2.out ⟨hmn.1, fun _ => hmn.2⟩⟩, hB9⟩
    · have hc1b : (ov != ve) = true := by simp [hc1]
      clear hc1
      gi_wp2
      generalize (W.alloc (.cells #[.bool ow, .string os, .int .i64 ov, .int .i64 ob, .int .i64 oe] 29)) = W1 at *
      have v5 : At 3 (W1.drew.setCell ⟨(w.heap.size + 1 + 1 + 1 + 1), 0, none⟩ (.int .i64 ov)) (w.heap.size + 1 + 1 + 1 + 1) #[.int .i64 ov] := (At.setC (show At 3 W1.drew _ _ from r5) 0 (.int .i64 ov) :)
      have v4 := At.otherC (show At 3 W1.drew _ _ from r4) (w.heap.size + 1 + 1 + 1 + 1) 0 (.int .i64 ov) (by omega)
      have v3 := At.otherC (show At 3 W1.drew _ _ from r3) (w.heap.size + 1 + 1 + 1 + 1) 0 (.int .i64 ov) (by omega)
      have z4b := At.cell v4 0
      have f4b := At.free v4 0
      have z3b := At.cell v3 0
      simp only [List.getElem?_toArray, List.getElem?_cons_zero] at z4b z3b
      have s3 : W1.drew.cell? ⟨(w.heap.size + 1 + 1), 0, none⟩ = some (.int .i64 le) := z3
      have s5 : W1.drew.cell? ⟨(w.heap.size + 1 + 1 + 1 + 1), 0, none⟩ = some (.int .i64 ve) := z5
      have sf5 : W1.drew.frozen? ⟨(w.heap.size + 1 + 1 + 1 + 1), 0, none⟩ = false := f5
      have sy2 : W1.drew.cell? ⟨W.heap.size, 2, none⟩ = some (.int .i64 ov) := y2
      apply reg_join
      · refine wpIn_region_any (by kernel_rfl) ?_
        change wpAnyIn _ _ _ _ _ _ _ _ _ (World.drew W1)
        refine wpAnyIn_ready (rs := [0, 2]) (by kernel_rfl) (by simp) (AllReadyIn.cons rfl (fun K hK => ?_) (AllReadyIn.cons rfl (fun K hK => ?_) AllReadyIn.nil))
        · rw [if_pos (by rfl)]
          refine opIn_value (fun _ => trivial) (fun c h => by cases h) (.pointer (some ⟨W.heap.size, 2, none⟩)) W1.drew (by first | (go_simp; done) | (go_simp; rfl)) ?_
          refine hK _ _ ?_
          clear hK K
          (try simp only [Act.put, List.getElem_toArray, List.getElem_cons_zero, List.getElem_cons_succ, List.setIfInBounds_toArray, List.set_cons_zero, List.set_cons_succ])
          refine wpAnyIn_ready (rs := [1, 2]) (by kernel_rfl) (by simp) (AllReadyIn.cons rfl (fun K hK => ?_) (AllReadyIn.cons rfl (fun K hK => ?_) AllReadyIn.nil))
          · rw [if_pos (by rfl)]
            refine opIn_value (fun _ => trivial) (fun c h => by cases h) (.int .i64 ov) W1.drew (by first | (go_simp; done) | (go_simp; rfl)) ?_
            refine hK _ _ ?_
            clear hK K
            (try simp only [Act.put, List.getElem_toArray, List.getElem_cons_zero, List.getElem_cons_succ, List.setIfInBounds_toArray, List.set_cons_zero, List.set_cons_succ])
            refine wpAnyIn_ready (rs := [2, 3]) (by kernel_rfl) (by simp) (AllReadyIn.cons rfl (fun K hK => ?_) (AllReadyIn.cons rfl (fun K hK => ?_) AllReadyIn.nil))
            · rw [if_pos (by rfl)]
              refine opIn_value (fun _ => trivial) (fun c h => by cases h) (.int .i64 le) W1.drew (by first | (go_simp; done) | (go_simp; rfl)) ?_
              refine hK _ _ ?_
              clear hK K
              (try simp only [Act.put, List.getElem_toArray, List.getElem_cons_zero, List.getElem_cons_succ, List.setIfInBounds_toArray, List.set_cons_zero, List.set_cons_succ])
              refine wpAnyIn_ready (rs := [3]) (by kernel_rfl) (by simp) (AllReadyIn.cons rfl (fun K hK => ?_) AllReadyIn.nil)
              rw [if_pos (by rfl)]
              refine opIn_skip (fun _ => trivial) (fun c h => by cases h) (W1.drew.setCell ⟨(w.heap.size + 1 + 1 + 1 + 1), 0, none⟩ (.int .i64 ov)) (by first | (go_simp; done) | (go_simp; rfl)) ?_
              refine hK _ _ ?_
              clear hK K
              (try simp only [Act.put, List.getElem_toArray, List.getElem_cons_zero, List.getElem_cons_succ, List.setIfInBounds_toArray, List.set_cons_zero, List.set_cons_succ])
              refine wpAnyIn_ready (rs := [4]) (by kernel_rfl) (by simp) (AllReadyIn.cons rfl (fun K hK => ?_) AllReadyIn.nil)
              rw [if_pos (by rfl)]
              refine opIn_skip (fun _ => trivial) (fun c h => by cases h) ((W1.drew.setCell ⟨(w.heap.size + 1 + 1 + 1 + 1), 0, none⟩ (.int .i64 ov)).setCell ⟨(w.heap.size + 1 + 1 + 1), 0, none⟩ (.int .i64 le)) (by first | (go_simp; done) | (go_simp; rfl)) ?_
              refine hK _ _ ?_
              clear hK K
              (try simp only [Act.put, List.getElem_toArray, List.getElem_cons_zero, List.getElem_cons_succ, List.setIfInBounds_toArray, List.set_cons_zero, List.set_cons_succ])
              refine wpAnyIn_done (by kernel_rfl) ?_ _
              exact ⟨rfl, rfl, rfl⟩
            · rw [if_pos (by rfl)]
              refine opIn_skip (fun _ => trivial) (fun c h => by cases h) (W1.drew.setCell ⟨(w.heap.size + 1 + 1 + 1 + 1), 0, none⟩ (.int .i64 ov)) (by first | (go_simp; done) | (go_simp; rfl)) ?_
              refine hK _ _ ?_
              clear hK K
              (try simp only [Act.put, List.getElem_toArray, List.getElem_cons_zero, List.getElem_cons_succ, List.setIfInBounds_toArray, List.set_cons_zero, List.set_cons_succ])
              refine wpAnyIn_ready (rs := [2]) (by kernel_rfl) (by simp) (AllReadyIn.cons rfl (fun K hK => ?_) AllReadyIn.nil)
              rw [if_pos (by rfl)]
              refine opIn_value (fun _ => trivial) (fun c h => by cases h) (.int .i64 le) (W1.drew.setCell ⟨(w.heap.size + 1 + 1 + 1 + 1), 0, none⟩ (.int .i64 ov)) (by first | (go_simp; done) | (go_simp; rfl)) ?_
              refine hK _ _ ?_
              clear hK K
              (try simp only [Act.put, List.getElem_toArray, List.getElem_cons_zero, List.getElem_cons_succ, List.setIfInBounds_toArray, List.set_cons_zero, List.set_cons_succ])
              refine wpAnyIn_ready (rs := [4]) (by kernel_rfl) (by simp) (AllReadyIn.cons rfl (fun K hK => ?_) AllReadyIn.nil)
              rw [if_pos (by rfl)]
              refine opIn_skip (fun _ => trivial) (fun c h => by cases h) ((W1.drew.setCell ⟨(w.heap.size + 1 + 1 + 1 + 1), 0, none⟩ (.int .i64 ov)).setCell ⟨(w.heap.size + 1 + 1 + 1), 0, none⟩ (.int .i64 le)) (by first | (go_simp; done) | (go_simp; rfl)) ?_
              refine hK _ _ ?_
              clear hK K
              (try simp only [Act.put, List.getElem_toArray, List.getElem_cons_zero, List.getElem_cons_succ, List.setIfInBounds_toArray, List.set_cons_zero, List.set_cons_succ])
              refine wpAnyIn_done (by kernel_rfl) ?_ _
              exact ⟨rfl, rfl, rfl⟩
          · rw [if_pos (by rfl)]
            refine opIn_value (fun _ => trivial) (fun c h => by cases h) (.int .i64 le) W1.drew (by first | (go_simp; done) | (go_simp; rfl)) ?_
            refine hK _ _ ?_
            clear hK K
            (try simp only [Act.put, List.getElem_toArray, List.getElem_cons_zero, List.getElem_cons_succ, List.setIfInBounds_toArray, List.set_cons_zero, List.set_cons_succ])
            refine wpAnyIn_ready (rs := [1]) (by kernel_rfl) (by simp) (AllReadyIn.cons rfl (fun K hK => ?_) AllReadyIn.nil)
            rw [if_pos (by rfl)]
            refine opIn_value (fun _ => trivial) (fun c h => by cases h) (.int .i64 ov) W1.drew (by first | (go_simp; done) | (go_simp; rfl)) ?_
            refine hK _ _ ?_
            clear hK K
            (try simp only [Act.put, List.getElem_toArray, List.getElem_cons_zero, List.getElem_cons_succ, List.setIfInBounds_toArray, List.set_cons_zero, List.set_cons_succ])
            refine wpAnyIn_ready (rs := [3]) (by kernel_rfl) (by simp) (AllReadyIn.cons rfl (fun K hK => ?_) AllReadyIn.nil)
            rw [if_pos (by rfl)]
            refine opIn_skip (fun _ => trivial) (fun c h => by cases h) (W1.drew.setCell ⟨(w.heap.size + 1 + 1 + 1 + 1), 0, none⟩ (.int .i64 ov)) (by first | (go_simp; done) | (go_simp; rfl)) ?_
            refine hK _ _ ?_
            clear hK K
            (try simp only [Act.put, List.getElem_toArray, List.getElem_cons_zero, List.getElem_cons_succ, List.setIfInBounds_toArray, List.set_cons_zero, List.set_cons_succ])
            refine wpAnyIn_ready (rs := [4]) (by kernel_rfl) (by simp) (AllReadyIn.cons rfl (fun K hK => ?_) AllReadyIn.nil)
            rw [if_pos (by rfl)]
            refine opIn_skip (fun _ => trivial) (fun c h => by cases h) ((W1.drew.setCell ⟨(w.heap.size + 1 + 1 + 1 + 1), 0, none⟩ (.int .i64 ov)).setCell ⟨(w.heap.size + 1 + 1 + 1), 0, none⟩ (.int .i64 le)) (by first | (go_simp; done) | (go_simp; rfl)) ?_
            refine hK _ _ ?_
            clear hK K
            (try simp only [Act.put, List.getElem_toArray, List.getElem_cons_zero, List.getElem_cons_succ, List.setIfInBounds_toArray, List.set_cons_zero, List.set_cons_succ])
            refine wpAnyIn_done (by kernel_rfl) ?_ _
            exact ⟨rfl, rfl, rfl⟩
        · rw [if_pos (by rfl)]
          refine opIn_value (fun _ => trivial) (fun c h => by cases h) (.int .i64 le) W1.drew (by first | (go_simp; done) | (go_simp; rfl)) ?_
          refine hK _ _ ?_
          clear hK K
          (try simp only [Act.put, List.getElem_toArray, List.getElem_cons_zero, List.getElem_cons_succ, List.setIfInBounds_toArray, List.set_cons_zero, List.set_cons_succ])
          refine wpAnyIn_ready (rs := [0]) (by kernel_rfl) (by simp) (AllReadyIn.cons rfl (fun K hK => ?_) AllReadyIn.nil)
          rw [if_pos (by rfl)]
          refine opIn_value (fun _ => trivial) (fun c h => by cases h) (.pointer (some ⟨W.heap.size, 2, none⟩)) W1.drew (by first | (go_simp; done) | (go_simp; rfl)) ?_
          refine hK _ _ ?_
          clear hK K
          (try simp only [Act.put, List.getElem_toArray, List.getElem_cons_zero, List.getElem_cons_succ, List.setIfInBounds_toArray, List.set_cons_zero, List.set_cons_succ])
          refine wpAnyIn_ready (rs := [1]) (by kernel_rfl) (by simp) (AllReadyIn.cons rfl (fun K hK => ?_) AllReadyIn.nil)
          rw [if_pos (by rfl)]
          refine opIn_value (fun _ => trivial) (fun c h => by cases h) (.int .i64 ov) W1.drew (by first | (go_simp; done) | (go_simp; rfl)) ?_
          refine hK _ _ ?_
          clear hK K
          (try simp only [Act.put, List.getElem_toArray, List.getElem_cons_zero, List.getElem_cons_succ, List.setIfInBounds_toArray, List.set_cons_zero, List.set_cons_succ])
          refine wpAnyIn_ready (rs := [3]) (by kernel_rfl) (by simp) (AllReadyIn.cons rfl (fun K hK => ?_) AllReadyIn.nil)
          rw [if_pos (by rfl)]
          refine opIn_skip (fun _ => trivial) (fun c h => by cases h) (W1.drew.setCell ⟨(w.heap.size + 1 + 1 + 1 + 1), 0, none⟩ (.int .i64 ov)) (by first | (go_simp; done) | (go_simp; rfl)) ?_
          refine hK _ _ ?_
          clear hK K
          (try simp only [Act.put, List.getElem_toArray, List.getElem_cons_zero, List.getElem_cons_succ, List.setIfInBounds_toArray, List.set_cons_zero, List.set_cons_succ])
          refine wpAnyIn_ready (rs := [4]) (by kernel_rfl) (by simp) (AllReadyIn.cons rfl (fun K hK => ?_) AllReadyIn.nil)
          rw [if_pos (by rfl)]
          refine opIn_skip (fun _ => trivial) (fun c h => by cases h) ((W1.drew.setCell ⟨(w.heap.size + 1 + 1 + 1 + 1), 0, none⟩ (.int .i64 ov)).setCell ⟨(w.heap.size + 1 + 1 + 1), 0, none⟩ (.int .i64 le)) (by first | (go_simp; done) | (go_simp; rfl)) ?_
          refine hK _ _ ?_
          clear hK K
          (try simp only [Act.put, List.getElem_toArray, List.getElem_cons_zero, List.getElem_cons_succ, List.setIfInBounds_toArray, List.set_cons_zero, List.set_cons_succ])
          refine wpAnyIn_done (by kernel_rfl) ?_ _
          exact ⟨rfl, rfl, rfl⟩
      rename_i Q2 K2 hK2
      refine hK2 _ _ ?_
      have g1 : At 22 ((W1.drew.setCell ⟨(w.heap.size + 1 + 1 + 1 + 1), 0, none⟩ (.int .i64 ov)).setCell ⟨(w.heap.size + 1 + 1 + 1), 0, none⟩ (.int .i64 le)) _ _ := At.otherC (At.otherC (show At 22 W1.drew _ _ from r1) (w.heap.size + 1 + 1 + 1 + 1) 0 (.int .i64 ov) (by omega)) (w.heap.size + 1 + 1 + 1) 0 (.int .i64 le) (by omega)
      have g2 : At 4 ((W1.drew.setCell ⟨(w.heap.size + 1 + 1 + 1 + 1), 0, none⟩ (.int .i64 ov)).setCell ⟨(w.heap.size + 1 + 1 + 1), 0, none⟩ (.int .i64 le)) _ _ := At.otherC (At.otherC (show At 4 W1.drew _ _ from r2) (w.heap.size + 1 + 1 + 1 + 1) 0 (.int .i64 ov) (by omega)) (w.heap.size + 1 + 1 + 1) 0 (.int .i64 le) (by omega)
      have g3 : At 3 ((W1.drew.setCell ⟨(w.heap.size + 1 + 1 + 1 + 1), 0, none⟩ (.int .i64 ov)).setCell ⟨(w.heap.size + 1 + 1 + 1), 0, none⟩ (.int .i64 le)) _ _ := At.otherC v3 (w.heap.size + 1 + 1 + 1) 0 (.int .i64 le) (by omega)
      have g4 : At 3 ((W1.drew.setCell ⟨(w.heap.size + 1 + 1 + 1 + 1), 0, none⟩ (.int .i64 ov)).setCell ⟨(w.heap.size + 1 + 1 + 1), 0, none⟩ (.int .i64 le)) (w.heap.size + 1 + 1 + 1) #[.int .i64 le] := (At.setC v4 0 (.int .i64 le) :)
      have g5 : At 3 ((W1.drew.setCell ⟨(w.heap.size + 1 + 1 + 1 + 1), 0, none⟩ (.int .i64 ov)).setCell ⟨(w.heap.size + 1 + 1 + 1), 0, none⟩ (.int .i64 le)) _ _ := At.otherC v5 (w.heap.size + 1 + 1 + 1) 0 (.int .i64 le) (by omega)
      have gy : At 29 ((W1.drew.setCell ⟨(w.heap.size + 1 + 1 + 1 + 1), 0, none⟩ (.int .i64 ov)).setCell ⟨(w.heap.size + 1 + 1 + 1), 0, none⟩ (.int .i64 le)) _ _ := At.otherC (At.otherC (show At 29 W1.drew _ _ from ry) (w.heap.size + 1 + 1 + 1 + 1) 0 (.int .i64 ov) (by omega)) (w.heap.size + 1 + 1 + 1) 0 (.int .i64 le) (by omega)
      have hch2 : Ch (fun j => j = (w.heap.size + 1 + 1) ∨ j = (w.heap.size + 1 + 1 + 1) ∨ j = (w.heap.size + 1 + 1 + 1 + 1) ∨ j = (w.heap.size + 1)) W ((W1.drew.setCell ⟨(w.heap.size + 1 + 1 + 1 + 1), 0, none⟩ (.int .i64 ov)).setCell ⟨(w.heap.size + 1 + 1 + 1), 0, none⟩ (.int .i64 le)) := (show Ch _ W W1.drew from ⟨hch1.os, hch1.tape, hch1.output, hch1.size, hch1.block⟩).trans (((Ch.setCell W1.drew ⟨(w.heap.size + 1 + 1 + 1 + 1), 0, none⟩ (.int .i64 ov)).mono (fun k _ e => .inr (.inr (.inl e)))).trans ((Ch.setCell _ ⟨(w.heap.size + 1 + 1 + 1), 0, none⟩ (.int .i64 le)).mono (fun k _ e => .inr (.inl e))))
      have hB2 : Below w.heap.size w ((W1.drew.setCell ⟨(w.heap.size + 1 + 1 + 1 + 1), 0, none⟩ (.int .i64 ov)).setCell ⟨(w.heap.size + 1 + 1 + 1), 0, none⟩ (.int .i64 le)) := hB.trans (hch2.below (by have := hB.size; omega) (fun k hk => by omega))
      have hs2 : W.heap.size < ((W1.drew.setCell ⟨(w.heap.size + 1 + 1 + 1 + 1), 0, none⟩ (.int .i64 ov)).setCell ⟨(w.heap.size + 1 + 1 + 1), 0, none⟩ (.int .i64 le)).heap.size := At.lt gy
      clear hK2 v3 v4 v5 z4b f4b z3b s3 s5 sf5 sy2 r1 r2 r3 r4 r5 ry z3 z4 z5 f4 f5 y0 y1 y2 y3 y4 hch1 hB1 hba hW1
      generalize ((W1.drew.setCell ⟨(w.heap.size + 1 + 1 + 1 + 1), 0, none⟩ (.int .i64 ov)).setCell ⟨(w.heap.size + 1 + 1 + 1), 0, none⟩ (.int .i64 le)) = W2 at *
      have e3 := At.cell g3 0
      have e4 := At.cell g4 0
      have m0 := At.cell gy 0
      have m1 := At.cell gy 1
      have m2 := At.cell gy 2
      have m3 := At.cell gy 3
      have m4 := At.cell gy 4
      have e2 := At.free g2 0
      have e2c := At.cell g2 0
      have e3f := At.free g3 0
      simp only [List.getElem?_toArray, List.getElem?_cons_zero, List.getElem?_cons_succ] at e2c e3 e4 m0 m1 m2 m3 m4
      by_cases hc2 : ob > le
      · have hc2b : decide (ob > le) = true := by simp [hc2]
        clear hc2
        gi_wp2
        have hch9 := hch2.trans ((Ch.setCell W2 ⟨(w.heap.size + 1), 0, none⟩ (.bool false)).mono (fun k _ e => .inr (.inr (.inr e))))
        exact ⟨keepsFrom_ch hch9 (fun k hk => by omega), ⟨rfl, (At.setC g2 0 (.bool false) :)⟩, hB.trans (hch9.below (by have := hB.size; omega) (fun k hk => by omega))⟩
      · have hc2b : decide (ob > le) = false := by simp [hc2]
        have HC2 : Hid (ob ≤ le) := by show ob ≤ _; omega
        clear hc2
        gi_wp2
        refine ⟨trivial, (CallsIn.inRound l ((callsIn_wide (n := 6)).2 (hA _))).mono ?_⟩
        rintro e w8 ⟨rfl, hb8⟩
        have hch8 := hch2.trans (Ch.of_below hb8 _)
        have hB8 : Below w.heap.size w w8 := hB.trans (hch8.below (by have := hB.size; omega) (fun k hk => by omega))
        have f1 := g1.below hb8
        have f2 := g2.below hb8
        have f3 := g3.below hb8
        have f4 := g4.below hb8
        have f5 := g5.below hb8
        have fy := gy.below hb8
        have hs8 : W.heap.size < w8.heap.size := At.lt fy
        clear g1 g2 g3 g4 g5 gy e2 e2c e3 e3f e4 m0 m1 m2 m3 m4 hA
        have e3 := At.cell f3 0
        have e3f := At.free f3 0
        have m4 := At.cell fy 4
        simp only [List.getElem?_toArray, List.getElem?_cons_zero, List.getElem?_cons_succ] at e3 m4
        cases za with
        | false =>
          gi_wp2
          exact ⟨keepsFrom_ch hch8 (fun k hk => by omega), keepB_ch hch8 ⟨hWs.1, fun hk => by omega⟩ ⟨hWs.2, fun hk => by omega⟩, ⟨le, le, ov, f1, f2, f3, f4, f5, by omega, HS.out le le (.inr rfl) HC2.out ⟨Int.le_refl _, fun h => by cases h⟩⟩, hB8⟩
        | true =>
          gi_wp2
          have hmn : min le oe ≤ le ∧ min le oe ≤ oe := ⟨by omega, by omega⟩
          have hch9 := hch8.trans ((Ch.setCell w8 ⟨(w.heap.size + 1 + 1), 0, none⟩ (.int .i64 (min le oe))).mono (fun k _ e => .inl e))
          have hB9 := hB.trans (hch9.below (by have := hB.size; omega) (fun k hk => by omega))
          have hsz := hch9.size
          exact ⟨keepsFrom_ch hch9 (fun k hk => by omega), keepB_ch hch9 ⟨hWs.1, fun hk => by omega⟩ ⟨hWs.2, fun hk => by omega⟩, ⟨min le oe, le, ov, f1.otherC _ 0 _ (by omega), f2.otherC _ 0 _ (by omega), (At.setC f3 0 (.int .i64 (min le oe)) :), f4.otherC _ 0 _ (by omega), f5.otherC _ 0 _ (by omega), by omega, HS.out (min le oe) le (.inr rfl) HC2.out ⟨hmn.1, fun _ => hmn.2⟩⟩, hB9⟩
  case done =>
    rintro D xs W hD rfl ⟨⟨le, gr, ve, hI⟩, hB⟩ hK
    have hcr := At.cell hI.a2 0
    have hfr := At.free hI.a2 0
    simp only [List.getElem?_toArray, List.getElem?_cons_zero] at hcr
    have hrs := ris_of hRow (fun j => (⟨ys.getD j 0, hyn j⟩ : Ix (max n 1))) (fun _ => rfl) fun h => (hI.i h).2
    clear hI
    gi_wp2
    have hK' := (KeepsOthers.setCell W ⟨(w.heap.size + 1), 0, none⟩ (.bool true)).same D _ hK rfl
    refine ⟨by simp, .inl ⟨_, _, rfl, run_takeDeferred hK', ?_⟩⟩
    have hc5 := cell_kept (World.cell?_setCell_same' W ⟨(w.heap.size + 1), 0, none⟩ (.bool true) (by rw [hcr]; rfl)) (grownBy_putObj' _ D (.deferred none)) (fun r e => by cases e; exact ⟨_, hK', rfl⟩)
    refine ⟨.bool true, ?_, true, rfl, fun _ => hrs, (hB.setCell (p := ⟨(w.heap.size + 1), 0, none⟩) (by simp only; omega) _).trans (belowK_b (w := w) (Nat.le_refl _) _ D _ _ (by omega) hK' rfl rfl)⟩
    simp [results, Try.f35, go_sem, hc5]
  case stop =>
    rintro D cd pre W hD _ ⟨⟨rfl, hA2⟩, hB⟩ hK
    have hcr := At.cell hA2 0
    simp only [List.getElem?_toArray, List.getElem?_cons_zero] at hcr
    gi_wp2
    refine ⟨by simp, .inl ⟨_, _, rfl, run_takeDeferred hK, ?_⟩⟩
    have hc5 := cell_kept hcr (grownBy_putObj' _ D (.deferred none)) (fun r e => by cases e; exact ⟨_, hK, rfl⟩)
    refine ⟨.bool false, ?_, false, rfl, (fun h => by cases h), hB.trans (belowK_b (w := w) (Nat.le_refl _) W D _ _ (by omega) hK rfl rfl)⟩
    simp [results, Try.f35, go_sem, hc5]

end Go.Proofs.Ytmfmjoibofadlaa.M
