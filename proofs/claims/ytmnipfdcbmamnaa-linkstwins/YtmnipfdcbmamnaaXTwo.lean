/-
  Own text: the program's Net and the document's lie apart: what is done to one leaves the other one as it is.
-/
import Derived.Test.YtmnipfdcbmamnaaXSame
import Derived.Test.YtmnipfdcbmamnaaXAlso
namespace Go.Proofs.Ytmnipfdcbmamnaa.M
open Go.ChangeShapes Go.WideShapes Go.ChangeAt Go.RowKit Go.ChangeMaps Go.MapKept Go.Maps

variable {Z : Nat → Prop}

theorem RdI.kept {w w' : World} {p : Option Addr} {n c : Nat} {its : List It} (h : RdI w p n c its) (hk : ∀ a, p = some a → 0 < n → w'.heap[a.block]? = w.heap[a.block]?) : RdI w' p n c its :=
  ⟨h.len, h.cap, h.nil, fun hn => by
    obtain ⟨b, o, e, hc⟩ := h.cells hn
    refine ⟨b, o, e, fun i hi => ?_⟩
    obtain ⟨k0, k1, k2⟩ := hc i hi
    have heq : ∀ j, w'.cell? ⟨b, j, none⟩ = w.cell? ⟨b, j, none⟩ := fun j => World.cell?_of_block (a := ⟨b, j, none⟩) (hk ⟨b, o, none⟩ e hn)
    exact ⟨(heq _).trans k0, (heq _).trans k1, (heq _).trans k2⟩, fun a e h0 => by
    obtain ⟨cs, f, h1⟩ := h.row a e h0
    exact ⟨cs, f, (hk a e h0).trans h1⟩⟩

theorem At.belF {t : TypeId} {w w' : World} {B g b n gl : Nat} {m : PN} {cs : Array Value} (h : At t w gl cs) (hN : NM Z w B g b n m) (hF : BelF Z B g b w w') (h1 : t ≠ 68) (h2 : t ≠ 9) : At t w' gl cs := by
  obtain ⟨⟨R, hb⟩, _⟩ := hN
  refine (hF.fr gl h.lt (fun e => ?_) (fun e => ?_) fun cs' f e => ?_).trans h
  · subst e
    have := h.symm.trans hb.blk
    injection this with this
    injection this with _ h3
    exact h1 h3
  · subst e
    obtain ⟨es, clock, h3, _⟩ := hb.map
    rw [show w.heap[gl]? = some (.cells cs t (0, 0)) from h] at h3
    cases h3
  · rw [show w.heap[gl]? = some (.cells cs t (0, 0)) from h] at e
    injection e with e
    injection e with _ h3
    exact h2 h3

theorem XS.belF {w w' : World} {B g b n gx nx : Nat} {m m2 : PN} (h : XS w gx nx m2) (hN : NM Z w B g b n m) (hF : BelF Z B g b w w') : XS w' gx nx m2 := by
  obtain ⟨p, k, c, its, hX, hk, hI⟩ := h.so
  refine ⟨p, k, c, its, ⟨hX.blk.belF hN hF (by decide) (by decide), hX.len, hX.rd.kept fun a e h0 => ?_, hX.off⟩, hk, hI⟩
  obtain ⟨cs, f, h1⟩ := hX.rd.row a e h0
  obtain ⟨⟨R, hb⟩, _⟩ := hN
  refine hF.fr a.block (Array.getElem?_eq_some_iff.1 h1).1 (fun e => ?_) (fun e => ?_) fun cs' f' e => ?_
  · rw [e, show w.heap[g]? = _ from hb.blk] at h1
    cases h1
  · obtain ⟨es, clock, h3, _⟩ := hb.map
    rw [e, h3] at h1
    cases h1
  · rw [h1] at e
    cases e

theorem NM.exx {w w' : World} {B g b n gx nx : Nat} {m m2 : PN} (h : NM Z w B g b n m) (hx : XS w gx nx m2) (he : Ex gx w w') : NM Z w' B g b n m := by
  obtain ⟨⟨R, h1⟩, h2, h3, h4⟩ := h
  obtain ⟨p, k, c, its, hX, hk, hI⟩ := hx.so
  have hb := hX.blk
  refine ⟨⟨R, h1.ex he (fun e => ?_) (fun e => ?_) fun a c' hn e => ?_⟩, h2, h3, h4⟩
  · subst e
    have := hb.symm.trans h1.blk
    cases this
  · subst e
    obtain ⟨es, clock, h5, _⟩ := h1.map
    rw [show w.heap[b]? = _ from hb] at h5
    cases h5
  · rcases (h1.rows a c' hn).2 with ⟨h5, _⟩ | ⟨g', cap', cur, h5, _, h6, _⟩
    · rw [h5] at e; cases e
    · rw [h5] at e
      cases e
      rw [show w.heap[g']? = _ from hb] at h6
      cases h6

theorem At.exx {t : TypeId} {w w' : World} {gx nx gl : Nat} {m2 : PN} {cs : Array Value} (h : At t w gl cs) (hx : XS w gx nx m2) (he : Ex gx w w') (h1 : t ≠ 31) : At t w' gl cs := by
  obtain ⟨p, k, c, its, hX, hk, hI⟩ := hx.so
  refine (he.block gl h.lt fun e => ?_).trans h
  subst e
  have := h.symm.trans hX.blk
  injection this with this
  injection this with _ h3
  exact h1 h3

theorem bitL_zero : bitL 0 = List.replicate 64 false := by
  unfold bitL
  rw [List.eq_replicate_iff]
  refine ⟨by simp, fun b hb => ?_⟩
  obtain ⟨i, _, rfl⟩ := List.mem_map.1 hb
  exact Nat.zero_testBit i

theorem XS.new (w : World) : XS (w.alloc (.cells (xc (.slice none 0 0) (List.replicate 64 false) 0) 31)) w.heap.size 0 ⟨fun _ _ => [], 0, 0⟩ :=
  ⟨none, 0, 0, [], ⟨by show At _ _ _ (xc _ (bitL 0) _); rw [bitL_zero]; exact At.new _ _ _, bitL_len 0, ⟨rfl, Nat.le_refl _, fun _ => rfl, fun h => absurd h (Nat.lt_irrefl _), fun _ e => by cases e⟩, fun _ e => by cases e⟩, Nat.le_refl _, fun _ _ => rfl⟩

theorem XS.lose {w : World} {gx n : Nat} {m : PN} (h : XS w gx n m) (k : Int) : XS (w.setCell ⟨gx, 65, none⟩ (.int .i64 k)) gx n { m with lost := k } := by
  obtain ⟨p, k0, c, its, hX, hk, hI⟩ := h.so
  exact ⟨p, k0, c, its, hX.lose k, hk, hI⟩

theorem XS.free {w : World} {gx n : Nat} {m : PN} (h : XS w gx n m) (j : Nat) : w.frozen? ⟨gx, j, none⟩ = false := by
  obtain ⟨p, k0, c, its, hX, hk, hI⟩ := h.so
  exact hX.blk.free j

theorem XS.lt {w : World} {gx n : Nat} {m : PN} (h : XS w gx n m) : gx < w.heap.size := by
  obtain ⟨p, k0, c, its, hX, hk, hI⟩ := h.so
  exact hX.blk.lt

theorem kind_range (op : Int) : 0 ≤ wrap64 ((IntKind.u64.wrap op).tmod 9) ∧ wrap64 ((IntKind.u64.wrap op).tmod 9) < 9 := by
  have h0 : 0 ≤ IntKind.u64.wrap op := by
    rw [show IntKind.u64.wrap op = op % 18446744073709551616 from rfl]
    omega
  have h1 : (IntKind.u64.wrap op).tmod 9 = IntKind.u64.wrap op % 9 := Int.tmod_eq_emod_of_nonneg h0
  rw [h1]
  have h2 : 0 ≤ IntKind.u64.wrap op % 9 ∧ IntKind.u64.wrap op % 9 < 9 := by omega
  have h3 : wrap64 (IntKind.u64.wrap op % 9) = IntKind.u64.wrap op % 9 := by
    generalize IntKind.u64.wrap op % 9 = r at *
    unfold wrap64
    omega
  rw [h3]
  exact h2

/-- What has an error changes nothing but how many had no room. -/
theorem step_err (m : PN) (k : Nd) (h : (m.step k).2.e ≠ 0) : (m.step k).1 = { m with lost := if (m.step k).2.e = 7 ∧ wrap64 ((IntKind.u64.wrap k.op).tmod 9) < 3 then m.lost + 1 else m.lost } := by
  have hr := kind_range k.op
  unfold PN.step at h ⊢
  generalize wrap64 ((IntKind.u64.wrap k.op).tmod 9) = z at *
  unfold PN.act at h ⊢
  by_cases h34 : z = 3 ∨ z = 4
  · rw [if_pos h34] at h ⊢
    split at h
    · exact absurd rfl h
    · next hi => rw [if_neg hi]; rw [if_neg (by dsimp only; omega)]
  · rw [if_neg h34] at h ⊢
    by_cases h5 : z = 5
    · rw [if_pos h5] at h ⊢
      split at h
      · exact absurd rfl h
      · next hi => rw [if_neg hi]; rw [if_neg (by dsimp only; omega)]
    · rw [if_neg h5] at h ⊢
      by_cases h6 : z = 6
      · rw [if_pos h6] at h ⊢
        split at h
        · next hi =>
          rw [if_pos hi]
          split at h
          · exact absurd rfl h
          · next hf => rw [if_neg hf]; rw [if_neg (by dsimp only; omega)]
        · next hi => rw [if_neg hi]; rw [if_neg (by dsimp only; omega)]
      · rw [if_neg h6] at h ⊢
        by_cases h7 : z = 7
        · rw [if_pos h7] at h; exact absurd rfl h
        · rw [if_neg h7] at h ⊢
          by_cases h8 : z = 8
          · rw [if_pos h8] at h; exact absurd rfl h
          · rw [if_neg h8] at h ⊢
            by_cases hl : isLk k.x k.y = false
            · rw [if_pos hl]; rw [if_neg (by dsimp only; omega)]
            · rw [if_neg hl] at h ⊢
              by_cases hb : 8192 < k.bl
              · rw [if_pos hb]; rw [if_neg (by dsimp only; omega)]
              · rw [if_neg hb] at h ⊢
                by_cases hf : (m.N k.x k.y).length < 8
                · rw [if_pos hf] at h; exact absurd rfl h
                · rw [if_neg hf]; rw [if_pos (by dsimp only; omega)]

end Go.Proofs.Ytmnipfdcbmamnaa.M
