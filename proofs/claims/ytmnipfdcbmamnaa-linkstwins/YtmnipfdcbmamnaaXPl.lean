/-
  Own text: the document's Net and the one in plain words: their lists, and the wall.
-/
import Derived.Test.YtmnipfdcbmamnaaXRef7
import Derived.Test.YtmnipfdcbmamnaaXSide
import Derived.Test.YtmnipfdcbmamnaaNBus3
import Derived.Deep.MidRow
namespace Go.Proofs.Ytmnipfdcbmamnaa.M
open Go.ChangeShapes Go.WideShapes Go.ChangeAt Go.RowKit Go.ChangeMaps Go.MapKept Go.Maps

def setL (cs : Array Value) : Nat → List Value → Array Value
  | _, [] => cs
  | o, v :: r => setL (cs.setIfInBounds o v) (o + 1) r

theorem setL_app : ∀ (vs mid pre post : List Value), mid.length = vs.length → setL (pre ++ mid ++ post).toArray pre.length vs = (pre ++ vs ++ post).toArray
  | [], mid, pre, post, h => by
    have : mid = [] := List.eq_nil_of_length_eq_zero h
    subst this
    rfl
  | v :: r, [], pre, post, h => by cases h
  | v :: r, u :: mid, pre, post, h => by
    show setL ((pre ++ u :: mid ++ post).toArray.setIfInBounds pre.length v) (pre.length + 1) r = _
    rw [List.setIfInBounds_toArray]
    have e : (pre ++ u :: mid ++ post).set pre.length v = (pre ++ [v]) ++ mid ++ post := by
      rw [List.append_assoc, List.set_append, if_neg (by omega), Nat.sub_self]
      simp
    have h2 : mid.length = r.length := by simpa using h
    have ih := setL_app r mid (pre ++ [v]) post h2
    rw [List.length_append, List.length_singleton] at ih
    rw [e, ih]
    simp

theorem at_setCells {t : TypeId} {g : Nat} : ∀ (vs : List Value) (o : Nat) (w : World) (cs : Array Value), At t w g cs → At t (w.setCells g o vs) g (setL cs o vs)
  | [], _, _, _, h => h
  | v :: r, o, w, cs, h => by
    have h1 : At t (w.setCell ⟨g, o, none⟩ v) g (cs.setIfInBounds o v) := by
      have := heap_setCell_same w g o _ _ v h
      unfold At
      rw [this]
    exact at_setCells r (o + 1) _ _ h1

theorem ex_setCells {g : Nat} {a : World} : ∀ (vs : List Value) (o : Nat) (w : World), Ex g a w → Ex g a (w.setCells g o vs)
  | [], _, _, h => h
  | v :: r, o, _, h => ex_setCells r (o + 1) _ (h.setCell o v)

theorem XB.wall {w : World} {gx : Nat} {p : Option Addr} {n c : Nat} {bs : List Bool} {lost : Int} {its : List It} (h : XB w gx p n c bs lost its) {cs : List Bool} (hc : cs.length = 64) : XB (w.setCells gx 1 (bools cs).toList) gx p n c cs lost its :=
  ⟨by
    have h1 := at_setCells (bools cs).toList 1 w _ h.blk
    have e : setL (xc (.slice p n c) bs lost) 1 (bools cs).toList = xc (.slice p n c) cs lost := by
      have := setL_app (cs.map Value.bool) (bs.map Value.bool) [.slice p n c] [.int .i64 lost] (by rw [List.length_map, List.length_map, h.len, hc])
      unfold xc bools
      exact this
    rw [e] at h1
    exact h1, hc, h.rd.ex (ex_setCells _ 1 _ (Ex.refl gx w)) h.off, h.off⟩

theorem XB.there {w : World} {gx : Nat} {p : Option Addr} {n c : Nat} {bs : List Bool} {lost : Int} {its : List It} (h : XB w gx p n c bs lost its) {cs : List Bool} (hc : cs.length = 64) : w.there gx 1 (bools cs).size := fun j hj => by
  rw [bools_size, hc] at hj
  exact ⟨by rw [h.cs hj]; rfl, h.blk.free (1 + j)⟩

theorem info_side (bs : List Bool) (h : bs.length = 64) : (Try.prog.info? 29).map (·.size) = some (bools bs).size := by
  rw [bools_size, h]
  kernel_rfl

theorem pl_cases {m : PN} {its : List It} (hI : ∀ x y, itN its x y = m.N x y) (x y i : Int) : (plR x y its i 0 = none ∧ ¬ (0 ≤ i ∧ i < (m.N x y).length)) ∨ ∃ a, plR x y its i 0 = some a ∧ (0 ≤ i ∧ i < (m.N x y).length) ∧ a < its.length ∧ onL x y (its.getD a (0, 0, ByteArray.empty)) = true ∧ (its.getD a (0, 0, ByteArray.empty)).2.2 = (m.N x y).getD i.toNat ByteArray.empty ∧ ∀ x' y', itN (its.eraseIdx a) x' y' = upN m.N x y ((m.N x y).eraseIdx i.toNat) x' y' := by
  cases hp : plR x y its i 0 with
  | none =>
    refine Or.inl ⟨rfl, ?_⟩
    have := plR_none x y its i 0 hp
    rw [hI] at this
    exact this
  | some a =>
    obtain ⟨⟨-, h2⟩, h3, h5, h6, h7, h8⟩ := plR_some x y its i 0 a hp
    rw [Nat.sub_zero] at h5 h6 h7
    rw [hI] at h3 h6 h7
    refine Or.inr ⟨a, rfl, h3, by omega, h5, h6, fun x' y' => ?_⟩
    unfold upN
    split
    · next e => rw [e.1, e.2]; exact h7
    · next e => have := h8 x' y' e; rw [Nat.sub_zero] at this; rw [this, hI]

theorem itN_snoc {m : PN} {its : List It} (hI : ∀ x y, itN its x y = m.N x y) {t : It} {x y : Int} (ht : onL x y t = true) (x' y' : Int) : itN (its ++ [t]) x' y' = upN m.N x y (m.N x y ++ [t.2.2]) x' y' := by
  rw [itN_app, hI]
  unfold upN
  split
  · next e => rw [e.1, e.2, itN_yes ht]
  · next e => rw [itN_no (onL_other ht e), List.append_nil]

theorem itN_fg {m : PN} {its : List It} (hI : ∀ x y, itN its x y = m.N x y) (k x' y' : Int) : itN (fgI k its) x' y' = clrN m.N k x' y' := by
  have key : ∀ l : List It, itN (fgI k l) x' y' = if x' = k ∨ y' = k then [] else itN l x' y' := by
    intro l
    induction l with
    | nil => unfold fgI itN; simp
    | cons t l ih =>
      have e1 : fgI k (t :: l) = if ((t.1 != k) && (t.2.1 != k)) = true then t :: fgI k l else fgI k l := by unfold fgI; rw [List.filter_cons]
      rw [e1, itN_cons]
      by_cases ho : onL x' y' t = true
      · obtain ⟨a, b⟩ := onL_iff.1 ho
        by_cases hk : x' = k ∨ y' = k
        · have hf : ((t.1 != k) && (t.2.1 != k)) = false := by rcases hk with h | h <;> simp [a, b, h]
          rw [hf, if_neg (by decide), ih, if_pos hk, if_pos hk]
        · have hf : ((t.1 != k) && (t.2.1 != k)) = true := by
            have h1 : x' ≠ k := fun e => hk (Or.inl e)
            have h2 : y' ≠ k := fun e => hk (Or.inr e)
            simp [a, b, h1, h2]
          rw [hf, if_pos rfl, itN_cons, if_pos ho, ih, if_neg hk, if_neg hk, if_pos ho]
      · rw [if_neg ho]
        split
        · rw [itN_cons, if_neg ho, ih]
        · exact ih
  rw [key its, hI]
  rfl

/-- The document's Net in memory is this one. -/
structure XS (w : World) (gx n : Nat) (m : PN) : Prop where
  so : ∃ p k c its, XB w gx p k c (bitL m.side) m.lost its ∧ k ≤ n ∧ ∀ x y, itN its x y = m.N x y

theorem XS.below {w w' : World} {gx n : Nat} {m : PN} (h : XS w gx n m) (hb : Below w.heap.size w w') : XS w' gx n m := by
  obtain ⟨p, k, c, its, h1, h2⟩ := h.so
  exact ⟨p, k, c, its, h1.below hb, h2⟩

theorem XS.up {w : World} {gx n : Nat} {m : PN} (h : XS w gx n m) : XS w gx (n + 1) m := by
  obtain ⟨p, k, c, its, h1, h2, h3⟩ := h.so
  exact ⟨p, k, c, its, h1, Nat.le_succ_of_le h2, h3⟩

/-- What also answers. -/
def aV (a : Ans) : Value := .tuple #[.string (if a.ok = true then a.msg else { data := #[] }), .bool a.ok, .int .i64 a.e]

theorem lk_nat {x y : Int} (h : isLk x y = true) : ∃ X Y : Nat, x = X ∧ y = Y ∧ X < 64 ∧ Y < 64 := by
  unfold isLk isPl at h
  simp only [Bool.and_eq_true, decide_eq_true_eq] at h
  obtain ⟨X, rfl⟩ := Int.eq_ofNat_of_zero_le (a := x) (by omega)
  obtain ⟨Y, rfl⟩ := Int.eq_ofNat_of_zero_le (a := y) (by omega)
  exact ⟨X, Y, rfl, rfl, by omega, by omega⟩

theorem tk_eq {s X Y : Nat} (hX : X < 64) (hY : Y < 64) (b : ByteArray) : tkV ((bitL s).getD X false != (bitL s).getD Y false) b = aV ⟨opn s X Y, 0, b⟩ := by
  rw [bitL_get s hX, bitL_get s hY]
  have e : opn s X Y = (s.testBit X == s.testBit Y) := by
    unfold opn hasN
    rw [decide_eq_true (show (0 : Int) ≤ (X : Int) ∧ (X : Int) < 64 by omega), decide_eq_true (show (0 : Int) ≤ (Y : Int) ∧ (Y : Int) < 64 by omega), Bool.true_and, Bool.true_and, Int.toNat_natCast, Int.toNat_natCast]
  rw [e]
  unfold tkV aV
  cases s.testBit X <;> cases s.testBit Y <;> rfl

end Go.Proofs.Ytmnipfdcbmamnaa.M
