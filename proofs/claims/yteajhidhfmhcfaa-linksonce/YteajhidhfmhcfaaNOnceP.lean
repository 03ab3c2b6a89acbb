/-
  Own text: what a call does to the messages, in plain words: the counts; and memory about the map that counts.
-/
import Derived.Test.YteajhidhfmhcfaaNShort
namespace Go.Proofs.Yteajhidhfmhcfaa.M
open Go.ChangeShapes Go.WideShapes Go.ChangeAt Go.RowKit Go.ChangeMaps Go.MapKept Go.Maps

/-- How often a message is on a link. -/
def occ (N : Int → Int → List ByteArray) (x y : Int) (s : ByteArray) : Nat := (N x y).countP (fun t => decide (t = s))

/-- What stands at a key, as a number. -/
def cntF (f : Value → Option Value) (x y : Int) (s : ByteArray) (c : Int) : Prop := (f (skV x y s)).getD (.int .i64 0) = .int .i64 c

/-- The counts are not below what is on the way. -/
structure Cn (f : Value → Option Value) (m : PN) (k : Nat) : Prop where
  num : ∀ x y s, ∃ c : Int, cntF f x y s c ∧ (occ m.N x y s : Int) ≤ c ∧ c ≤ k
  sz : ∀ x y, ∀ s ∈ m.N x y, s.size ≤ 8192

theorem skV_inj {x y x' y' : Int} {s s' : ByteArray} (h : skV x y s = skV x' y' s') : x = x' ∧ y = y' ∧ s = s' := by
  unfold skV at h
  simp at h
  exact h

theorem occ_up (N : Int → Int → List ByteArray) (x y : Int) (l : List ByteArray) (s : ByteArray) : occ (upN N x y l) x y s = l.countP (fun t => decide (t = s)) := by
  unfold occ
  rw [upN_same]

theorem occ_off (N : Int → Int → List ByteArray) (x y : Int) (l : List ByteArray) (a c : Int) (s : ByteArray) (h : ¬ (a = x ∧ c = y)) : occ (upN N x y l) a c s = occ N a c s := by
  unfold occ
  rw [show upN N x y l a c = N a c from if_neg h]

theorem occ_snoc (N : Int → Int → List ByteArray) (x y : Int) (t : ByteArray) (a c : Int) (s : ByteArray) :
    occ (upN N x y (N x y ++ [t])) a c s = occ N a c s + (if a = x ∧ c = y ∧ s = t then 1 else 0) := by
  by_cases h : a = x ∧ c = y
  · obtain ⟨rfl, rfl⟩ := h
    rw [occ_up, List.countP_append]
    unfold occ
    by_cases h2 : s = t
    · subst h2; simp
    · have h3 : ¬ t = s := fun e => h2 e.symm
      simp [h2, h3]
  · rw [occ_off _ _ _ _ _ _ _ h, if_neg (fun e => h ⟨e.1, e.2.1⟩)]
    rfl

theorem count_erase (l : List ByteArray) (i : Nat) (hi : i < l.length) (s : ByteArray) : (l.eraseIdx i).countP (fun t => decide (t = s)) + (if s = l.getD i ByteArray.empty then 1 else 0) = l.countP (fun t => decide (t = s)) := by
  have e1 : l = l.take i ++ l.getD i ByteArray.empty :: l.drop (i + 1) := by
    rw [List.getD_eq_getElem?_getD, List.getElem?_eq_getElem hi]
    simp
  have e2 : l.countP (fun t => decide (t = s)) = (l.take i ++ l.getD i ByteArray.empty :: l.drop (i + 1)).countP (fun t => decide (t = s)) := congrArg _ e1
  rw [e2, List.eraseIdx_eq_take_drop_succ, List.countP_append, List.countP_append, List.countP_cons]
  by_cases h2 : s = l.getD i ByteArray.empty
  · rw [if_pos h2, if_pos (decide_eq_true h2.symm)]
    omega
  · rw [if_neg h2, if_neg (fun e => h2 (of_decide_eq_true e).symm)]
    omega

theorem occ_erase (N : Int → Int → List ByteArray) (x y : Int) (i : Nat) (hi : i < (N x y).length) (a c : Int) (s : ByteArray) :
    occ (upN N x y ((N x y).eraseIdx i)) a c s + (if a = x ∧ c = y ∧ s = (N x y).getD i ByteArray.empty then 1 else 0) = occ N a c s := by
  by_cases h : a = x ∧ c = y
  · obtain ⟨rfl, rfl⟩ := h
    rw [occ_up]
    have := count_erase (N a c) i hi s
    unfold occ
    rw [← this]
    by_cases h2 : s = (N a c).getD i ByteArray.empty
    · rw [if_pos h2, if_pos ⟨rfl, rfl, h2⟩]
    · rw [if_neg h2, if_neg (fun e => h2 e.2.2)]
  · rw [occ_off _ _ _ _ _ _ _ h, if_neg (fun e => h ⟨e.1, e.2.1⟩)]
    rfl

theorem cntF_one {f : Value → Option Value} {x y : Int} {s : ByteArray} {c c' : Int} (h : cntF f x y s c) (h' : cntF f x y s c') : c = c' := by
  unfold cntF at h h'
  rw [h] at h'
  injection h'

theorem Cn.send {f f' : Value → Option Value} {m m' : PN} {k : Nat} (h : Cn f m k) {x y : Int} {t : ByteArray} (ht : t.size ≤ 8192) (hm : m'.N = upN m.N x y (m.N x y ++ [t])) {c : Int} (hc : cntF f x y t c)
    (h1 : f' (skV x y t) = some (.int .i64 (c + 1))) (h2 : ∀ v, v ≠ skV x y t → f' v = f v) : Cn f' m' (k + 1) := by
  refine ⟨fun a b s => ?_, fun a b s hs => ?_⟩
  · obtain ⟨d, g1, g2, g3⟩ := h.num a b s
    rw [hm, occ_snoc]
    by_cases hk : a = x ∧ b = y ∧ s = t
    · obtain ⟨rfl, rfl, rfl⟩ := hk
      have := cntF_one hc g1
      subst this
      refine ⟨c + 1, ?_, ?_, ?_⟩
      · unfold cntF; rw [h1]; rfl
      · rw [if_pos ⟨rfl, rfl, rfl⟩]; omega
      · omega
    · refine ⟨d, ?_, ?_, by omega⟩
      · unfold cntF
        rw [h2 _ (fun e => hk (skV_inj e))]
        exact g1
      · rw [if_neg hk]; omega
  · rw [hm] at hs
    unfold upN at hs
    split at hs
    · rcases List.mem_append.1 hs with h3 | h3
      · exact h.sz _ _ s h3
      · rw [List.mem_singleton.1 h3]; exact ht
    · exact h.sz _ _ s hs

theorem Cn.take {f f' : Value → Option Value} {m m' : PN} {k : Nat} (h : Cn f m k) {x y : Int} {i : Nat} (hi : i < (m.N x y).length) {t : ByteArray} (ht : (m.N x y).getD i ByteArray.empty = t) (hm : m'.N = upN m.N x y ((m.N x y).eraseIdx i)) {c : Int} (hc : cntF f x y t c)
    (h1 : f' (skV x y t) = some (.int .i64 (c - 1))) (h2 : ∀ v, v ≠ skV x y t → f' v = f v) : Cn f' m' (k + 1) ∧ 0 ≤ c - 1 := by
  subst ht
  have key := fun a b s => occ_erase m.N x y i hi a b s
  have hpos : 0 ≤ c - 1 := by
    obtain ⟨d, g1, g2, _⟩ := h.num x y ((m.N x y).getD i ByteArray.empty)
    have := cntF_one hc g1
    subst this
    have h3 := key x y ((m.N x y).getD i ByteArray.empty)
    rw [if_pos ⟨rfl, rfl, rfl⟩] at h3
    omega
  refine ⟨⟨fun a b s => ?_, fun a b s hs => ?_⟩, hpos⟩
  · obtain ⟨d, g1, g2, g3⟩ := h.num a b s
    have h3 := key a b s
    rw [hm]
    by_cases hk : a = x ∧ b = y ∧ s = (m.N x y).getD i ByteArray.empty
    · rw [if_pos hk] at h3
      obtain ⟨rfl, rfl, rfl⟩ := hk
      have := cntF_one hc g1
      subst this
      exact ⟨c - 1, by unfold cntF; rw [h1]; rfl, by omega, by omega⟩
    · rw [if_neg hk] at h3
      refine ⟨d, ?_, by omega, by omega⟩
      unfold cntF
      rw [h2 _ (fun e => hk (skV_inj e))]
      exact g1
  · rw [hm] at hs
    unfold upN at hs
    split at hs
    · exact h.sz _ _ s ((List.eraseIdx_sublist _ _).subset hs)
    · exact h.sz _ _ s hs

theorem Cn.less {f : Value → Option Value} {m m' : PN} {k : Nat} (h : Cn f m k) (hs : ∀ x y, (m'.N x y).Sublist (m.N x y)) : Cn f m' (k + 1) := by
  refine ⟨fun a b s => ?_, fun a b s hm => h.sz a b s ((hs a b).subset hm)⟩
  obtain ⟨d, g1, g2, g3⟩ := h.num a b s
  have := (hs a b).countP_le (p := fun t => decide (t = s))
  refine ⟨d, g1, ?_, by omega⟩
  unfold occ at g2 ⊢
  omega

theorem sub_up (N : Int → Int → List ByteArray) (x y : Int) (i : Nat) (a c : Int) : (upN N x y ((N x y).eraseIdx i) a c).Sublist (N a c) := by
  unfold upN
  split
  · next h => rw [h.1, h.2]; exact List.eraseIdx_sublist _ _
  · exact List.Sublist.refl _

theorem sub_clr (N : Int → Int → List ByteArray) (p : Int) (a c : Int) : (clrN N p a c).Sublist (N a c) := by
  unfold clrN
  split
  · exact List.nil_sublist _
  · exact List.Sublist.refl _

/-- Which of the four a call is. -/
theorem step_kinds (m : PN) (k : Nd) :
    (wrap64 ((IntKind.u64.wrap k.op).tmod 9) < 3 ∧ (m.step k).2.e = 0 → k.bl ≤ 8192 ∧ (m.step k).1.N = upN m.N k.x k.y (m.N k.x k.y ++ [strOfNums k.xb])) ∧
    (wrap64 ((IntKind.u64.wrap k.op).tmod 9) = 6 ∧ (m.step k).2.e = 0 → (0 ≤ k.i ∧ k.i < (m.N k.x k.y).length) ∧ (m.step k).1.N = upN m.N k.x k.y (m.N k.x k.y ++ [(m.N k.x k.y).getD k.i.toNat ByteArray.empty])) ∧
    ((m.step k).2.ok = true → (wrap64 ((IntKind.u64.wrap k.op).tmod 9) = 3 ∨ wrap64 ((IntKind.u64.wrap k.op).tmod 9) = 4) ∧ (0 ≤ k.i ∧ k.i < (m.N k.x k.y).length) ∧ (m.step k).2.msg = (m.N k.x k.y).getD k.i.toNat ByteArray.empty ∧ (m.step k).1.N = upN m.N k.x k.y ((m.N k.x k.y).eraseIdx k.i.toNat)) ∧
    (¬ (wrap64 ((IntKind.u64.wrap k.op).tmod 9) < 3 ∧ (m.step k).2.e = 0) → ¬ (wrap64 ((IntKind.u64.wrap k.op).tmod 9) = 6 ∧ (m.step k).2.e = 0) → ∀ x y, ((m.step k).1.N x y).Sublist (m.N x y)) := by
  have hz0 : 0 ≤ wrap64 ((IntKind.u64.wrap k.op).tmod 9) ∧ wrap64 ((IntKind.u64.wrap k.op).tmod 9) ≤ 8 := by
    have h0 : 0 ≤ IntKind.u64.wrap k.op := by rw [IntKind.wrap_u64]; omega
    have h1 : (IntKind.u64.wrap k.op).tmod 9 = (IntKind.u64.wrap k.op) % 9 := Int.tmod_eq_emod_of_nonneg h0
    have h2 : wrap64 (IntKind.u64.wrap k.op % 9) = IntKind.u64.wrap k.op % 9 := by unfold wrap64; omega
    rw [h1, h2]
    omega
  unfold PN.step PN.act
  generalize wrap64 ((IntKind.u64.wrap k.op).tmod 9) = z at *
  by_cases h34 : z = 3 ∨ z = 4
  · rw [if_pos h34]
    by_cases hi : 0 ≤ k.i ∧ k.i < (m.N k.x k.y).length
    · rw [if_pos hi]
      exact ⟨fun h => by omega, fun h => by omega, fun _ => ⟨h34, hi, rfl, rfl⟩, fun _ _ => sub_up m.N k.x k.y _⟩
    · rw [if_neg hi]
      exact ⟨fun h => by omega, fun h => by omega, (fun h => by cases h), fun _ _ x y => List.Sublist.refl _⟩
  rw [if_neg h34]
  by_cases h5 : z = 5
  · rw [if_pos h5]
    by_cases hi : 0 ≤ k.i ∧ k.i < (m.N k.x k.y).length
    · rw [if_pos hi]
      exact ⟨fun h => by omega, fun h => by omega, (fun h => by cases h), fun _ _ => sub_up m.N k.x k.y _⟩
    · rw [if_neg hi]
      exact ⟨fun h => by omega, fun h => by omega, (fun h => by cases h), fun _ _ x y => List.Sublist.refl _⟩
  rw [if_neg h5]
  by_cases h6 : z = 6
  · rw [if_pos h6]
    by_cases hi : 0 ≤ k.i ∧ k.i < (m.N k.x k.y).length
    · rw [if_pos hi]
      by_cases h8 : (m.N k.x k.y).length < 8
      · rw [if_pos h8]
        exact ⟨fun h => by omega, fun _ => ⟨hi, rfl⟩, (fun h => by cases h), fun _ h2 => absurd ⟨h6, rfl⟩ h2⟩
      · rw [if_neg h8]
        exact ⟨fun h => by omega, fun h => absurd h.2 (by simp), (fun h => by cases h), fun _ _ x y => List.Sublist.refl _⟩
    · rw [if_neg hi]
      exact ⟨fun h => by omega, fun h => absurd h.2 (by simp), (fun h => by cases h), fun _ _ x y => List.Sublist.refl _⟩
  rw [if_neg h6]
  by_cases h7 : z = 7
  · rw [if_pos h7]
    exact ⟨fun h => by omega, fun h => by omega, (fun h => by cases h), fun _ _ x y => List.Sublist.refl _⟩
  rw [if_neg h7]
  by_cases h8 : z = 8
  · rw [if_pos h8]
    exact ⟨fun h => by omega, fun h => by omega, (fun h => by cases h), fun _ _ x y => sub_clr m.N k.i x y⟩
  rw [if_neg h8]
  by_cases hl : isLk k.x k.y = false
  · rw [if_pos hl]
    exact ⟨fun h => absurd h.2 (by simp), fun h => absurd h.1 h6, (fun h => by cases h), fun _ _ x y => List.Sublist.refl _⟩
  rw [if_neg hl]
  by_cases hb : 8192 < k.bl
  · rw [if_pos hb]
    exact ⟨fun h => absurd h.2 (by simp), fun h => absurd h.1 h6, (fun h => by cases h), fun _ _ x y => List.Sublist.refl _⟩
  rw [if_neg hb]
  by_cases hf : (m.N k.x k.y).length < 8
  · rw [if_pos hf]
    exact ⟨fun _ => ⟨by omega, rfl⟩, fun h => absurd h.1 h6, (fun h => by cases h), fun h1 _ => absurd ⟨by omega, rfl⟩ h1⟩
  · rw [if_neg hf]
    exact ⟨fun h => absurd h.2 (by simp), fun h => absurd h.1 h6, (fun h => by cases h), fun _ _ x y => List.Sublist.refl _⟩

theorem At.mid6 {t : TypeId} {w : World} {g : Nat} {x y z u p q : Value} (h : At t w g #[x, y, z, u, p, q]) : w.rangeAt g 2 [z, u] := by
  intro j v hj
  match j, hj with
  | 0, hj => cases hj; exact h.cell 2
  | 1, hj => cases hj; exact h.cell 3

theorem At.all3 {t : TypeId} {w : World} {g : Nat} {x y z : Value} (h : At t w g #[x, y, z]) : w.rangeAt g 0 [x, y, z] := by
  intro j v hj
  rw [Nat.zero_add]
  match j, hj with
  | 0, hj => cases hj; exact h.cell 0
  | 1, hj => cases hj; exact h.cell 1
  | 2, hj => cases hj; exact h.cell 2

theorem sizeSt : (Try.prog.info? 57).map (·.size) = some 3 := by kernel_rfl

theorem Rd.ex {k : IntKind} {w w' : World} {p : Option Addr} {n c x : Nat} {xs : List Int} (h : Rd k w p n c xs) (he : Ex x w w') (hx : ∀ a, p = some a → 0 < n → a.block ≠ x) : Rd k w' p n c xs := by
  refine ⟨h.len, h.cap, h.nil, fun hn => ?_⟩
  obtain ⟨b, o, rfl, hc⟩ := h.cells hn
  refine ⟨b, o, rfl, fun i hi => ?_⟩
  have hlt := World.block_lt_of_cell? _ _ (hc i hi)
  rw [← hc i hi]
  have := he.block b hlt (hx _ rfl hn)
  unfold World.cell?
  dsimp only
  rw [this]

end Go.Proofs.Yteajhidhfmhcfaa.M
