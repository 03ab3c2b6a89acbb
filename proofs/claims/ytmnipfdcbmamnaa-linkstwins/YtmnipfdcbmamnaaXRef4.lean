/-
  Own text: the document's Net: Forget.
-/
import Derived.Test.YtmnipfdcbmamnaaXRef3
namespace Go.Proofs.Ytmnipfdcbmamnaa.M
open Go.ChangeShapes Go.WideShapes Go.ChangeAt Go.RowKit Go.ChangeMaps Go.MapKept Go.Maps

theorem wpList_appI (w : World) {ops : Array Oper} {rest : List Oper} {o : Oper} {a : Act} {Q : Exit → Act → World → Prop} (hgd : o.guard = none) (s x : Operand)
    (hop : o.op = .call { callee := .builtin .append, args := #[s, x], argTypes := #[28, 28] })
    (B : Nat) (v : Value) (A : List It) (hs : a.eval s = v) (ho : OwI w B v A) (q : Option Addr) (m d : Nat) (L : List It) (hx : a.eval x = .slice q m d) (hr : RdI w q m d L) (hA : A.length ≤ 1000000) (hm : m ≤ 1000000) (hB : B ≤ w.heap.size)
    (h : ∀ v' w', OwI w' B v' (A ++ L) → Below B w w' → wpList Try.prog ops Q rest (a.put o.dst v') w') : wpList Try.prog ops Q (o :: rest) a w := by
  refine wpList_plain hgd fun K hK => ?_
  obtain ⟨v', w', hrun, h1, h2⟩ := run_appI o.type ho hr hA hm hB
  unfold Oper.wp
  simp [execOp, hop, resolve, invoke, builtin, hs, hx, hrun, Result.andThen]
  exact hK _ _ (h v' w' h1 h2)

theorem rdI_one (w : World) (t1 t2 : Int) (tb : ByteArray) : RdI (w.alloc (.cells #[.int .i64 t1, .int .i64 t2, .string tb] 77)) (some ⟨w.heap.size, 0, none⟩) 1 1 [(t1, t2, tb)] := by
  have hA := At.new 77 w #[.int .i64 t1, .int .i64 t2, .string tb]
  refine ⟨rfl, Nat.le_refl _, (fun h => by cases h), fun _ => ⟨w.heap.size, 0, rfl, fun i hi => ?_⟩, fun a e _ => by cases e; exact ⟨_, _, hA⟩⟩
  match i, hi with
  | 0, _ => exact ⟨hA.cell 0, hA.cell 1, hA.cell 2⟩

/-- Those that neither come from a place nor go there. -/
def fgI (k : Int) (its : List It) : List It := its.filter fun t => (t.1 != k) && (t.2.1 != k)

theorem fgI_snoc (k : Int) (a : List It) (t : It) : fgI k (a ++ [t]) = if ((t.1 != k) && (t.2.1 != k)) = true then fgI k a ++ [t] else fgI k a := by
  unfold fgI
  rw [List.filter_append, List.filter_cons]
  split
  · rfl
  · rw [List.filter_nil, List.append_nil]

theorem fgI_len (k : Int) (a : List It) : (fgI k a).length ≤ a.length := List.length_filter_le _ _

theorem XB.put {w : World} {gx : Nat} {p : Option Addr} {n c : Nat} {bs : List Bool} {lost : Int} {its : List It} (h : XB w gx p n c bs lost its) {q : Option Addr} {m d : Nat} {L : List It} (hr : RdI w q m d L) (ho : ∀ a, q = some a → 0 < m → a.block ≠ gx) : XB (w.setCell ⟨gx, 0, none⟩ (.slice q m d)) gx q m d bs lost L :=
  ⟨by
    have h1 := heap_setCell_same w gx 0 _ _ (.slice q m d) h.blk
    unfold At
    rw [h1, xc_setV], h.len, hr.ex ((Ex.refl gx w).setCell 0 _) ho, ho⟩

theorem XB.belowB {w w' : World} {B gx : Nat} {p : Option Addr} {n c : Nat} {bs : List Bool} {lost : Int} {its : List It} (h : XB w gx p n c bs lost its) (hb : Below B w w') (hB : w.heap.size ≤ B) : XB w' gx p n c bs lost its := h.below (hb.mono hB)

set_option maxRecDepth 20000 in
set_option maxHeartbeats 2000000 in
theorem rForget_any {w : World} {gx : Nat} {p : Option Addr} {n c : Nat} {bs : List Bool} {lost : Int} {its : List It} (h : XB w gx p n c bs lost its) (hn : n ≤ 1000000) (k : Int) :
    Calls Try.prog 35 #[.pointer (some ⟨gx, 0, none⟩), .int .i64 k] w fun o w' => o = .returned (.tuple #[]) ∧ (∃ q d, XB w' gx q (fgI k its).length d bs lost (fgI k its)) ∧ Ex gx w w' := by
  have c0 := h.c0
  have hl := h.rd.len
  have HX : Hid (XB w gx p n c bs lost its) := h
  have hr := h.rd
  have hgl : gx < w.heap.size := h.blk.lt
  clear h
  generalize hB : w.heap.size = B at *
  go_enter Try.func35, Try.ntmps35
  go_wp2_with fail
  go_loopw [4, 12] (fun v ix wr => ∃ j : Nat, j ≤ n ∧ ix = .int .i64 j ∧ OwI wr B v (fgI k (its.take j)) ∧ Below B w wr) (fun _ ix _ => n - (intOf ix).toNat)
  case atStart => exact ⟨0, Nat.zero_le _, rfl, OwI.nil _ _, Below.refl _ _⟩
  case round =>
    obtain ⟨j, hj, rfl, hO, hb⟩ := hrel
    have hbs : B ≤ wr.heap.size := by have := hb.size; omega
    by_cases hjn : j < n
    · have hji : (j : Int) < (n : Int) := by omega
      have hrr := hr.below (w' := wr) (by rw [hB]; exact hb)
      obtain ⟨gb, go, rfl, hc⟩ := hrr.cells (by omega)
      obtain ⟨k0, k1, k2⟩ := hc j hjn
      have hsn := congrArg (fgI k) (take_snocI (l := its) (k := j) (by omega))
      rw [fgI_snoc] at hsn
      have hlen : (fgI k (its.take j)).length ≤ 1000000 := Nat.le_trans (fgI_len _ _) (by rw [List.length_take]; omega)
      generalize its.getD j (0, 0, ByteArray.empty) = t at *
      obtain ⟨t1, t2, tb⟩ := t
      dsimp only at k0 k1 k2 hsn
      have hbx := below_alloc wr (.cells #[.int .i64 t1, .int .i64 t2, .string tb] 77)
      have hX := At.new 77 wr #[.int .i64 t1, .int .i64 t2, .string tb]
      obtain ⟨z0, z1, z2⟩ := hX.three
      have hb2 : Below B w (wr.alloc (.cells #[.int .i64 t1, .int .i64 t2, .string tb] 77)) := hb.trans (hbx.mono hbs)
      clear hc hX hrr
      by_cases h1 : t1 = k
      · have e1 : (t1 != k) = false := by simp [h1]
        have HS : Hid (fgI k (its.take (j + 1)) = fgI k (its.take j)) := by show _ = _; rw [hsn, e1]; rfl
        have hO2 := hO.below hbx
        clear hsn hO h1
        go_wp2_with fail
        go_roundw
        case rel => exact ⟨j + 1, by omega, by go_num, by rw [HS.out]; exact hO2, hb2⟩
        case measure => simp [intOf]; omega
      · have e1 : (t1 != k) = true := by simp [h1]
        by_cases h2 : t2 = k
        · have e2 : (t2 != k) = false := by simp [h2]
          have HS : Hid (fgI k (its.take (j + 1)) = fgI k (its.take j)) := by show _ = _; rw [hsn, e1, e2]; rfl
          have hO2 := hO.below hbx
          clear hsn hO h1 h2
          go_wp2_with fail
          go_roundw
          case rel => exact ⟨j + 1, by omega, by go_num, by rw [HS.out]; exact hO2, hb2⟩
          case measure => simp [intOf]; omega
        · have e2 : (t2 != k) = true := by simp [h2]
          have HS : Hid (fgI k (its.take (j + 1)) = fgI k (its.take j) ++ [(t1, t2, tb)]) := by show _ = _; rw [hsn, e1, e2]; rfl
          have hby := below_alloc (wr.alloc (.cells #[.int .i64 t1, .int .i64 t2, .string tb] 77)) (.cells #[.int .i64 t1, .int .i64 t2, .string tb] 77)
          have hO2 := (hO.below hbx).below hby
          have hR1 := rdI_one (wr.alloc (.cells #[.int .i64 t1, .int .i64 t2, .string tb] 77)) t1 t2 tb
          have hs2 : B ≤ (wr.alloc (.cells #[.int .i64 t1, .int .i64 t2, .string tb] 77)).heap.size := by have := hb2.size; omega
          have hb3 := hb2.trans (hby.mono hs2)
          have hs3 : B ≤ ((wr.alloc (.cells #[.int .i64 t1, .int .i64 t2, .string tb] 77)).alloc (.cells #[.int .i64 t1, .int .i64 t2, .string tb] 77)).heap.size := by have := hb3.size; omega
          have hsz : (wr.alloc (.cells #[.int .i64 t1, .int .i64 t2, .string tb] 77)).heap.size = wr.heap.size + 1 := by simp
          rw [hsz] at hR1
          clear hsn hO h1 h2 hsz
          go_wp2_with (at_builtin; refine wpList_appI _ rfl (.tmp 28) (.tmp 30) rfl B _ _ rfl hO2 _ 1 1 _ rfl hR1 hlen (by decide) hs3 ?_; rintro v' w' hO3 hb4)
          go_roundw
          case rel => exact ⟨j + 1, by omega, by go_num, by rw [HS.out]; exact hO3, hb3.trans hb4⟩
          case measure => simp [intOf]; omega
    · have hji : ¬ (j : Int) < (n : Int) := by omega
      have e : its.take j = its := List.take_of_length_le (by omega)
      rw [e] at hO
      obtain ⟨q, d, rfl, hq, hrd⟩ := hO.rd
      have hX2 : XB wr gx p n c bs lost its := HX.out.below (by rw [hB]; exact hb)
      have d0 := hX2.c0
      have df := hX2.blk.free 0
      have hZ := hX2.put hrd (fun a e _ => by have := hq a e; omega)
      have hE : Ex gx w (wr.setCell ⟨gx, 0, none⟩ (.slice q (fgI k its).length d)) := (Ex.of_below (by rw [hB]; exact hb)).setCell 0 _
      clear HX hX2 hO hrd hr
      go_wp2_with fail
      refine bodyPost_end (results_none rfl _ _ _) rfl ?_
      exact ⟨rfl, ⟨_, _, hZ⟩, hE⟩

end Go.Proofs.Ytmnipfdcbmamnaa.M
