/-
  Own text: the links on which something is on its way, by the document's Net; that they are those of the program's.
-/
import Derived.Test.YtmnipfdcbmamnaaXPl
import Derived.Test.YtmnipfdcbmamnaaNTwo
namespace Go.Proofs.Ytmnipfdcbmamnaa.M
open Go.ChangeShapes Go.WideShapes Go.ChangeAt Go.RowKit Go.ChangeMaps Go.MapKept Go.Maps

/-- The links from a place with something on their way, up to the place k. -/
def rowB (N : Int → Int → List ByteArray) (x : Nat) : Nat → List (Int × Int)
  | 0 => []
  | k + 1 => if N x k = [] then rowB N x k else rowB N x k ++ [((x : Int), (k : Int))]

/-- All of them, from the places below k. -/
def allB (N : Int → Int → List ByteArray) : Nat → List (Int × Int)
  | 0 => []
  | k + 1 => allB N k ++ rowB N k 32

theorem rowB_len (N : Int → Int → List ByteArray) (x : Nat) : ∀ k, (rowB N x k).length ≤ k
  | 0 => Nat.le_refl _
  | k + 1 => by
    have := rowB_len N x k
    unfold rowB
    split
    · omega
    · rw [List.length_append, List.length_singleton]; omega

theorem allB_len (N : Int → Int → List ByteArray) : ∀ k, (allB N k).length ≤ k * 32
  | 0 => Nat.le_refl _
  | k + 1 => by
    have := allB_len N k
    have := rowB_len N k 32
    unfold allB
    rw [List.length_append]
    omega

theorem rowB_mem (N : Int → Int → List ByteArray) (x : Nat) : ∀ k s, s ∈ rowB N x k ↔ ∃ b : Nat, b < k ∧ s = ((x : Int), (b : Int)) ∧ N x b ≠ []
  | 0, s => ⟨fun h => (List.not_mem_nil h).elim, fun ⟨b, hb, _⟩ => absurd hb (Nat.not_lt_zero _)⟩
  | k + 1, s => by
    have ih := rowB_mem N x k s
    unfold rowB
    by_cases h : N x k = []
    · rw [if_pos h, ih]
      refine ⟨fun ⟨b, hb, h2, h3⟩ => ⟨b, by omega, h2, h3⟩, fun ⟨b, hb, h2, h3⟩ => ⟨b, ?_, h2, h3⟩⟩
      rcases Nat.lt_or_ge b k with hc | hc
      · exact hc
      · obtain rfl : b = k := by omega
        exact absurd h h3
    · rw [if_neg h, List.mem_append, ih, List.mem_singleton]
      refine ⟨fun hs => ?_, fun ⟨b, hb, h2, h3⟩ => ?_⟩
      · rcases hs with ⟨b, hb, h2, h3⟩ | rfl
        · exact ⟨b, by omega, h2, h3⟩
        · exact ⟨k, by omega, rfl, h⟩
      · rcases Nat.lt_or_ge b k with hc | hc
        · exact Or.inl ⟨b, hc, h2, h3⟩
        · obtain rfl : b = k := by omega
          exact Or.inr h2

theorem allB_mem (N : Int → Int → List ByteArray) : ∀ k s, s ∈ allB N k ↔ ∃ a b : Nat, a < k ∧ b < 32 ∧ s = ((a : Int), (b : Int)) ∧ N a b ≠ []
  | 0, s => ⟨fun h => (List.not_mem_nil h).elim, fun ⟨a, b, ha, _⟩ => absurd ha (Nat.not_lt_zero _)⟩
  | k + 1, s => by
    have ih := allB_mem N k s
    unfold allB
    rw [List.mem_append, ih, rowB_mem]
    refine ⟨fun hs => ?_, fun ⟨a, b, ha, hb, h2, h3⟩ => ?_⟩
    · rcases hs with ⟨a, b, ha, hb, h2, h3⟩ | ⟨b, hb, h2, h3⟩
      · exact ⟨a, b, by omega, hb, h2, h3⟩
      · exact ⟨k, b, by omega, hb, h2, h3⟩
    · rcases Nat.lt_or_ge a k with hc | hc
      · exact Or.inl ⟨a, b, hc, hb, h2, h3⟩
      · obtain rfl : a = k := by omega
        exact Or.inr ⟨b, hb, h2, h3⟩

/-- One link stands ahead of another one. -/
def ltL (x y : Int × Int) : Prop := x.1 < y.1 ∨ (x.1 = y.1 ∧ x.2 < y.2)

theorem rowB_up (N : Int → Int → List ByteArray) (x : Nat) : ∀ k, (rowB N x k).Pairwise ltL
  | 0 => List.Pairwise.nil
  | k + 1 => by
    have ih := rowB_up N x k
    unfold rowB
    split
    · exact ih
    · refine List.pairwise_append.2 ⟨ih, List.pairwise_singleton _ _, fun a ha b hb => ?_⟩
      rw [List.mem_singleton.1 hb]
      obtain ⟨c, hc, rfl, _⟩ := (rowB_mem N x k a).1 ha
      exact Or.inr ⟨rfl, by show (c : Int) < (k : Int); omega⟩

theorem allB_up (N : Int → Int → List ByteArray) : ∀ k, (allB N k).Pairwise ltL
  | 0 => List.Pairwise.nil
  | k + 1 => by
    have ih := allB_up N k
    unfold allB
    refine List.pairwise_append.2 ⟨ih, rowB_up N k 32, fun a ha b hb => ?_⟩
    obtain ⟨c, d, hc, _, rfl, _⟩ := (allB_mem N k a).1 ha
    obtain ⟨e, _, rfl, _⟩ := (rowB_mem N k 32 b).1 hb
    exact Or.inl (by show (c : Int) < (k : Int); omega)

theorem up_unique : ∀ a b : List (Int × Int), a.Pairwise ltL → b.Pairwise ltL → (∀ s, s ∈ a ↔ s ∈ b) → a = b
  | [], [], _, _, _ => rfl
  | [], y :: b, _, _, h => ((List.not_mem_nil ((h y).2 (List.mem_cons_self ..)))).elim
  | x :: a, [], _, _, h => ((List.not_mem_nil ((h x).1 (List.mem_cons_self ..)))).elim
  | x :: a, y :: b, ha, hb, h => by
    obtain ⟨ha1, ha2⟩ := List.pairwise_cons.1 ha
    obtain ⟨hb1, hb2⟩ := List.pairwise_cons.1 hb
    have e : x = y := by
      rcases List.mem_cons.1 ((h x).1 (List.mem_cons_self ..)) with e | hx
      · exact e
      · rcases List.mem_cons.1 ((h y).2 (List.mem_cons_self ..)) with e | hy
        · exact e.symm
        · have h1 := hb1 x hx
          have h2 := ha1 y hy
          unfold ltL at h1 h2
          omega
    subst e
    have irr : ∀ s : Int × Int, ¬ ltL s s := fun s hs => by unfold ltL at hs; omega
    refine congrArg (x :: ·) (up_unique a b ha2 hb2 fun s => ⟨fun hs => ?_, fun hs => ?_⟩)
    · rcases List.mem_cons.1 ((h s).1 (List.mem_cons_of_mem _ hs)) with rfl | h2
      · exact absurd (ha1 _ hs) (irr _)
      · exact h2
    · rcases List.mem_cons.1 ((h s).2 (List.mem_cons_of_mem _ hs)) with rfl | h2
      · exact absurd (hb1 _ hs) (irr _)
      · exact h2

theorem busy_all {m : PN} (hl : Lks m) {ss : List (Int × Int)} (h : BusyN m.N ss) : ss = allB m.N 32 := by
  refine up_unique _ _ ?_ (allB_up _ _) fun s => ?_
  · have hn : ss.Pairwise fun x y => x ≠ y := h.nodup
    refine (hn.and h.sorted).imp fun {x y} hxy => ?_
    obtain ⟨h1, h2⟩ := hxy
    unfold ltL
    have h3 : ¬ (x.1 = y.1 ∧ x.2 = y.2) := fun e => h1 (Prod.ext e.1 e.2)
    omega
  · rw [h.mem, allB_mem]
    refine ⟨fun hs => ?_, fun ⟨a, b, _, _, e, h3⟩ => ?_⟩
    · have := hl _ _ hs
      unfold isLk isPl at this
      simp only [Bool.and_eq_true, decide_eq_true_eq] at this
      obtain ⟨s1, s2⟩ := s
      dsimp only at this hs ⊢
      obtain ⟨X, rfl⟩ := Int.eq_ofNat_of_zero_le (a := s1) (by omega)
      obtain ⟨Y, rfl⟩ := Int.eq_ofNat_of_zero_le (a := s2) (by omega)
      exact ⟨X, Y, by omega, by omega, rfl, hs⟩
    · subst e
      exact h3

/-- A slice of links of the call's own. -/
def OwL (w : World) (B : Nat) (v : Value) (ss : List (Int × Int)) : Prop := w.ownsRow B 33 2 v ss.length (cellsL ss)

theorem OwL.nil (w : World) (B : Nat) : OwL w B (.slice none 0 0) [] := ⟨rfl, Or.inl ⟨rfl, rfl⟩⟩

theorem OwL.below {w w' : World} {B : Nat} {v : Value} {ss : List (Int × Int)} (h : OwL w B v ss) (hb : Below w.heap.size w w') : OwL w' B v ss := ownsRow_below h hb

theorem OwL.rd {w : World} {B : Nat} {v : Value} {ss : List (Int × Int)} (h : OwL w B v ss) : ∃ q c, v = .slice q ss.length c ∧ RdL w q ss.length c ss := by
  have h' : w.ownsRow B 33 2 v ss.length (cellsL ss) := h
  rcases h.2 with ⟨rfl, h2⟩ | ⟨g, cap, cur, rfl, hg, hh, hc, _, hs, _⟩
  · exact ⟨none, 0, by rw [h2], rfl, fun h => by omega⟩
  · refine ⟨_, _, rfl, rfl, fun _ => ⟨g, 0, rfl, fun i hi => ?_⟩⟩
    obtain ⟨k0, k1⟩ := cellsL_get ss i hi
    have h4 := World.ownsRow.cells h' (g := g) rfl _ _ k0
    have h5 := World.ownsRow.cells h' (g := g) rfl _ _ k1
    rw [Addr.add_lit, Nat.zero_add] at h4 h5
    rw [Nat.zero_add]
    exact ⟨h4, h5⟩

theorem wpList_appL (w : World) {ops : Array Oper} {rest : List Oper} {o : Oper} {a : Act} {Q : Exit → Act → World → Prop} (hgd : o.guard = none) (s x : Operand)
    (hop : o.op = .call { callee := .builtin .append, args := #[s, x], argTypes := #[51, 51] })
    (B : Nat) (v : Value) (A : List (Int × Int)) (hs : a.eval s = v) (ho : OwL w B v A) (g : Nat) (t : Int × Int) (hx : a.eval x = .slice (some ⟨g, 0, none⟩) 1 1) (hg : At 33 w g #[.int .i64 t.1, .int .i64 t.2]) (hA : A.length ≤ 1000000) (hB : B ≤ w.heap.size)
    (h : ∀ v' w', OwL w' B v' (A ++ [t]) → Below B w w' → wpList Try.prog ops Q rest (a.put o.dst v') w') : wpList Try.prog ops Q (o :: rest) a w := by
  obtain ⟨i, hi, hz, hsize, hby⟩ : ∃ i, Try.prog.info? 33 = some i ∧ i.zero = some (.agg #[.int .i64 0, .int .i64 0]) ∧ i.size = 2 ∧ i.bytes = 16 := by
    have := infoL
    cases hq : Try.prog.info? 33 with
    | none => rw [hq] at this; cases this
    | some i =>
      rw [hq] at this
      simp only [Option.map_some, Option.some.injEq, Prod.mk.injEq] at this
      exact ⟨i, rfl, this.1, this.2.1, this.2.2⟩
  have hU : Try.prog.underlying 51 = some (.slice 33) := Try.underlying51
  have hnth : ∀ j u, [Value.int .i64 t.1, .int .i64 t.2][j]? = some u → w.cell? ((⟨g, 0, none⟩ : Addr).add j) = some u := fun j u hj => by
    rw [Addr.add_lit, Nat.zero_add]
    match j, hj with
    | 0, hj => cases hj; exact hg.cell 0
    | 1, hj => cases hj; exact hg.cell 1
  refine wpList_plain hgd fun K hK => ?_
  obtain ⟨v', w', hrun, h2, h3, _⟩ := run_append_own (P := Try.prog) (w := w) B 51 o.type 33 i _ 2 16 hU hi hz hsize hby (by rfl) (by decide) v A.length (cellsL A) ho ⟨g, 0, none⟩ 1 1 [.int .i64 t.1, .int .i64 t.2] rfl hnth (by intro u hu; simp only [List.mem_cons, List.not_mem_nil, or_false] at hu; rcases hu with rfl | rfl <;> rfl) (by unfold maxLen; omega) (by omega) hB
  have h1 : OwL w' B v' (A ++ [t]) := by
    unfold OwL
    rw [cellsL_snoc, List.length_append, List.length_singleton]
    exact h2
  have hb : Below B w w' := (Below.refl B w).grown h3 hB fun r hr => by
    rcases ho.2 with ⟨rfl, _⟩ | ⟨g', cap, cur, rfl, hg', _⟩
    · cases hr
    · cases hr; exact hg'
  unfold Oper.wp
  simp [execOp, hop, resolve, invoke, builtin, hs, hx, hrun, Result.andThen]
  exact hK _ _ (h v' w' h1 hb)

theorem rowB_zero (N : Int → Int → List ByteArray) (x : Nat) : rowB N x 0 = [] := rfl
theorem rowB_no {N : Int → Int → List ByteArray} {x k : Nat} (h : (N x k).length = 0) : rowB N x (k + 1) = rowB N x k := by
  show (if N x k = [] then _ else _) = _
  rw [if_pos (List.eq_nil_of_length_eq_zero h)]
theorem rowB_yes {N : Int → Int → List ByteArray} {x k : Nat} (h : ¬ (N x k).length = 0) : rowB N x (k + 1) = rowB N x k ++ [((x : Int), (k : Int))] := by
  show (if N x k = [] then _ else _) = _
  rw [if_neg (fun e => h (by rw [e]; rfl))]

set_option maxRecDepth 20000 in
set_option maxHeartbeats 2000000 in
theorem rBusy_any {w : World} {gx n : Nat} {m : PN} (h : XS w gx n m) (hn : n ≤ 1000000) :
    Calls Try.prog 19 #[.pointer (some ⟨gx, 0, none⟩)] w fun o w' => ∃ q c, o = .returned (.slice q (allB m.N 32).length c) ∧ RdL w' q (allB m.N 32).length c (allB m.N 32) ∧ Below w.heap.size w w' := by
  obtain ⟨p, k0, c, its, hX, hk0, hI⟩ := h.so
  clear h
  have hI' : Hid (∀ x y, itN its x y = m.N x y) := hI
  clear hI
  generalize hB : w.heap.size = B at *
  go_enter Try.func19, Try.ntmps19
  go_wp2_with fail
  go_loopw [3, 6] (fun v ix wr => ∃ j : Nat, j ≤ 32 ∧ ix = .int .i64 j ∧ OwL wr B v (allB m.N j) ∧ Below B w wr) (fun _ ix _ => 32 - (intOf ix).toNat)
  case atStart => exact ⟨0, Nat.zero_le _, rfl, OwL.nil _ _, Below.refl _ _⟩
  case round =>
    obtain ⟨j, hj, rfl, hO, hb⟩ := hrel
    by_cases hjn : j < 32
    · have hji : (j : Int) < 32 := by omega
      go_wp2_with fail
      go_loopw [3, 9] (fun v ix wq => ∃ e : Nat, e ≤ 32 ∧ ix = .int .i64 e ∧ OwL wq B v (allB m.N j ++ rowB m.N j e) ∧ Below B w wq) (fun _ ix _ => 32 - (intOf ix).toNat)
      case atStart => exact ⟨0, Nat.zero_le _, rfl, by rw [rowB_zero, List.append_nil]; exact hO, hb⟩
      case round =>
        obtain ⟨e, he, rfl, hO2, hb2⟩ := hrel
        have hbs2 := hb2.size
        by_cases hen : e < 32
        · have hei : (e : Int) < 32 := by omega
          have hX2 := hX.below (w' := wr) (by rw [hB]; exact hb2)
          have hL := rLen_any wr gx p k0 c its hX2.c0 hX2.rd (by omega) j e
          rw [hI'.out] at hL
          have hlen2 : (allB m.N j ++ rowB m.N j e).length ≤ 1000000 := by
            have := allB_len m.N j
            have := rowB_len m.N j e
            rw [List.length_append]
            omega
          by_cases hz : (m.N j e).length = 0
          · have hs : allB m.N j ++ rowB m.N j (e + 1) = allB m.N j ++ rowB m.N j e := by rw [rowB_no hz]
            rw [hz] at hL
            clear hX2 hz
            go_wp2_with fail
            refine hL.mono ?_
            rintro o w3 ⟨rfl, hw3⟩
            clear hL
            have hO3 := hO2.below hw3
            have hb3 := hb2.trans (hw3.mono (by omega))
            go_wp2_with fail
            go_roundw
            case rel => exact ⟨e + 1, by omega, by go_num, by rw [hs]; exact hO3, hb3⟩
            case measure => simp [intOf]; omega
          · have hs : allB m.N j ++ rowB m.N j (e + 1) = allB m.N j ++ rowB m.N j e ++ [((j : Int), (e : Int))] := by rw [rowB_yes hz, List.append_assoc]
            obtain ⟨K, HK⟩ : ∃ z, Hid ((m.N j e).length = z) := ⟨_, rfl⟩
            rw [HK.out] at hL hz
            have hg : decide ((0 : Int) < (K : Int)) = true := decide_eq_true (by omega)
            clear hX2
            go_wp2_with fail
            refine hL.mono ?_
            rintro o w3 ⟨rfl, hw3⟩
            clear hL
            have hby := below_alloc w3 (.cells #[.int .i64 j, .int .i64 e] 33)
            have hX3 := At.new 33 w3 #[.int .i64 j, .int .i64 e]
            have hO3 := (hO2.below hw3).below hby
            have hb3 := hb2.trans (hw3.mono (by omega))
            have hb4 := hb3.trans (hby.mono (by have := hb3.size; omega))
            have hs4 := hb4.size
            rw [hB] at hs4
            go_wp2_with (at_builtin; refine wpList_appL _ rfl (.tmp 18) (.tmp 22) rfl B _ _ rfl hO3 w3.heap.size ((j : Int), (e : Int)) rfl hX3 hlen2 hs4 ?_; rintro v' w' hO5 hb5)
            go_roundw
            case rel => exact ⟨e + 1, by omega, by go_num, by rw [hs]; exact hO5, hb4.trans hb5⟩
            case measure => simp [intOf]; omega
        · obtain rfl : e = 32 := by omega
          go_wp2_with fail
          go_roundw
          case rel => exact ⟨j + 1, by omega, by go_num, hO2, hb2⟩
          case measure => simp [intOf]; omega
    · obtain rfl : j = 32 := by omega
      obtain ⟨q, d, rfl, hrd⟩ := hO.rd
      go_wp2_with fail
      go_ret
      exact ⟨q, d, rfl, hrd, hb⟩

end Go.Proofs.Ytmnipfdcbmamnaa.M
