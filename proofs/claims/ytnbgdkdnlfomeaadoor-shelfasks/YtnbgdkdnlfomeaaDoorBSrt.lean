/-
  Own text: cells sorted by their keys: in plain words, and slices.SortFunc of at most twelve.
-/
import Derived.Test.YtnbgdkdnlfomeaaDoorBSrt0
import Derived.Test.YtnbgdkdnlfomeaaDoorBDel
import Derived.Test.YtnbgdkdnlfomeaaDoorBBe
import Derived.Shelf.SlSortCmp.Xorshift
namespace Go.Proofs.YtnbgdkdnlfomeaaDoor.M
open Go.ChangeShapes Go.WideShapes Go.ChangeAt Go.RowKit Go.Shelf Go.Proofs Go.Sort
set_option linter.unusedSimpArgs false

/-- A cell among sorted ones. -/
def insC (c : Ce) : List Ce → List Ce
  | [] => [c]
  | x :: l => if c.k < x.k then c :: x :: l else x :: insC c l

/-- Cells by rising keys. -/
def sortC : List Ce → List Ce
  | [] => []
  | c :: l => insC c (sortC l)

theorem insC_perm (c : Ce) : ∀ l : List Ce, (insC c l).Perm (c :: l)
  | [] => List.Perm.refl _
  | x :: l => by
    unfold insC
    split
    · exact List.Perm.refl _
    · exact ((insC_perm c l).cons x).trans (List.Perm.swap c x l)

theorem sortC_perm : ∀ l : List Ce, (sortC l).Perm l
  | [] => List.Perm.refl _
  | c :: l => (insC_perm c (sortC l)).trans ((sortC_perm l).cons c)

/-- Strictly rising keys. -/
def Rise (l : List Ce) : Prop := l.Pairwise fun a b => a.k < b.k

theorem insC_rise (c : Ce) : ∀ l : List Ce, Rise l → (∀ x ∈ l, x.k ≠ c.k) → Rise (insC c l)
  | [], _, _ => List.pairwise_singleton _ _
  | x :: l, h, hn => by
    have h1 := List.pairwise_cons.1 h
    unfold insC
    split
    · next hlt =>
      refine List.pairwise_cons.2 ⟨fun y hy => ?_, h⟩
      rcases List.mem_cons.1 hy with rfl | hy
      · exact hlt
      · exact Nat.lt_trans hlt (h1.1 y hy)
    · next hge =>
      refine List.pairwise_cons.2 ⟨fun y hy => ?_, insC_rise c l h1.2 fun y hy => hn y (List.mem_cons_of_mem _ hy)⟩
      rcases List.mem_cons.1 ((insC_perm c l).mem_iff.1 hy) with rfl | hy
      · have := hn x (List.mem_cons_self ..)
        omega
      · exact h1.1 y hy

theorem sortC_rise : ∀ l : List Ce, Keys l → Rise (sortC l)
  | [], _ => List.Pairwise.nil
  | c :: l, h => insC_rise c _ (sortC_rise l h.tail) fun x hx => by
    have hx2 := (sortC_perm l).mem_iff.1 hx
    exact fun e => (List.pairwise_cons.1 h.1).1 x hx2 e.symm

theorem rise_eq : ∀ {a b : List Ce}, Rise a → Rise b → a.Perm b → a = b
  | [], b, _, _, hp => (List.nil_perm.1 hp).symm
  | x :: l, b, ha, hb, hp => by
    match b, hb, hp with
    | [], _, hp => exact absurd hp.length_eq (by simp)
    | y :: m, hb, hp =>
      have h1 := List.pairwise_cons.1 ha
      have h2 := List.pairwise_cons.1 hb
      have e : x = y := by
        rcases List.mem_cons.1 (hp.mem_iff.1 (List.mem_cons_self ..)) with e | hx
        · exact e
        · rcases List.mem_cons.1 (hp.mem_iff.2 (List.mem_cons_self ..)) with e | hy
          · exact e.symm
          · have := h1.1 y hy
            have := h2.1 x hx
            omega
      subst e
      rw [rise_eq h1.2 h2.2 (List.Perm.cons_inv hp)]

theorem sortC_len (l : List Ce) : (sortC l).length = l.length := (sortC_perm l).length_eq

/-- Sorted by the comparison, and the same cells: there is but one. -/
theorem sorted_sortC {L a : List Ce} (hK : Keys L) (hp : a.Perm L) (hs : a.Pairwise fun x y => ¬ cfC y x < 0) : a = sortC L := by
  refine rise_eq ?_ (sortC_rise L hK) (hp.trans (sortC_perm L).symm)
  have hd : a.Pairwise fun x y => x.k ≠ y.k := (hp.pairwise_iff (fun {x y} h => Ne.symm h)).2 hK.1
  have hk : ∀ x ∈ a, x.k < 18446744073709551616 := fun x hx => hK.2 x (hp.mem_iff.1 hx)
  unfold Rise
  rw [List.pairwise_iff_getElem] at hs hd ⊢
  intro i j hi hj hij
  have h1 := hs i j hi hj hij
  have h2 := hd i j hi hj hij
  have h3 := hk _ (List.getElem_mem hi)
  have h4 := hk _ (List.getElem_mem hj)
  unfold cfC cmpN at h1
  rw [Nat.mod_eq_of_lt h3, Nat.mod_eq_of_lt h4] at h1
  by_cases h5 : a[j].k < a[i].k
  · rw [if_pos h5] at h1
    omega
  · omega

theorem cfC_lt (x y : Ce) : ltOf cfC x y = true ↔ x.k % 18446744073709551616 < y.k % 18446744073709551616 := by
  unfold ltOf cfC cmpN
  rw [decide_eq_true_iff]
  split
  · next h => simp [h]
  · next h =>
    split
    · simp [h]
    · simp [h]

theorem cfC_nlt (x y : Ce) : ltOf cfC x y = false ↔ ¬ x.k % 18446744073709551616 < y.k % 18446744073709551616 := by rw [← cfC_lt, Bool.not_eq_true]

theorem swoC : SWO (ltOf cfC) where
  irrefl x := (cfC_nlt x x).2 (by omega)
  trans x y z h k := (cfC_lt x z).2 (by have h1 := (cfC_lt x y).1 h; have h2 := (cfC_lt y z).1 k; omega)
  ntrans x y z h k := (cfC_nlt x z).2 (by have h1 := (cfC_nlt x y).1 h; have h2 := (cfC_nlt y z).1 k; omega)

/-- A cell's cells, as the sort sees them. -/
def encCe (x : Ce) : List Value := [.int .u8 (bt x.k 0), .int .u8 (bt x.k 1), .int .u8 (bt x.k 2), .int .u8 (bt x.k 3), .int .u8 (bt x.k 4), .int .u8 (bt x.k 5), .int .u8 (bt x.k 6), .int .u8 (bt x.k 7), .int .i64 x.v, .string x.s]

theorem getE (l : List Value) (i : Nat) (h : i < l.length) : l[i]! = l.getD i undef := by
  rw [getElem!_pos l i h, List.getD_eq_getElem?_getD, List.getElem?_eq_getElem h]
  rfl

theorem cmpC_enters : ∀ args w, (callFunc 68 args).run Tryd.prog w = .ok (.enter 68 args) w := enters_of Tryd.func68 (by kernel_rfl) rfl

theorem lenC_any (n : Nat) (W : World) (hn : n ≤ 12) : Calls Tryd.prog 76 #[.int .u64 n] W fun e w' => (∃ l : Int, e = .returned (.int .i64 l)) ∧ w' = W := by
  have h := Any.bits_Len (SlLaysF0.n15.bits (P := Tryd.prog) (ρ := renS) { laysS with }) (n : Int) W (by omega) (by omega)
  exact h.mono fun e w' ⟨h1, h2⟩ => ⟨⟨_, h1⟩, h2⟩

section
variable [Inhabited Ce]

theorem flatC_get (d : Array Ce) (i r : Nat) (hi : i < d.size) (hr : r < 10) : (flatK encCe 10 d)[i * 10 + r]! = (celS.cs (d.toList.getD i .z0)).getD r undef := by
  rw [get_flatK encCe 10 d (i * 10 + r) (by omega), show (i * 10 + r) / 10 = i by omega, show (i * 10 + r) % 10 = r by omega]
  have hg : d[i]! = d.toList.getD i .z0 := by
    rw [getElem!_pos d i hi, List.getD_eq_getElem?_getD, Array.getElem?_toList, Array.getElem?_eq_getElem hi]
    rfl
  rw [hg, getE _ _ (show r < (encCe _).length from hr)]
  rfl

theorem holds_of_own {e : TypeId} {w : World} {B g n c : Nat} {L : List Ce} (h : OwG celS e w B (some ⟨g, 0, none⟩) n c L) (h0 : 0 < n) : HoldsK encCe 10 w g 0 L.toArray := by
  have hl := h.len
  have hcap := h.rd.cap
  obtain ⟨b, o, e1, hc⟩ := h.rd.at h0
  cases e1
  intro j hj
  have hj2 : j < n * 10 := by rw [size_flatK] at hj; rw [← hl]; simpa using hj
  have hi : j / 10 < n := by omega
  have h1 := hc (j / 10) hi (j % 10) (Nat.mod_lt _ (by decide))
  have e2 : 0 + j / 10 * celS.E + j % 10 = j := by show 0 + j / 10 * 10 + j % 10 = j; omega
  rw [e2] at h1
  have h2 := flatC_get L.toArray (j / 10) (j % 10) (by simp; omega) (Nat.mod_lt _ (by decide))
  rw [show j / 10 * 10 + j % 10 = j by omega] at h2
  refine ⟨?_, ?_⟩
  · rw [Nat.zero_add, h1, h2]
    rfl
  · have h3 := (OwG.room h j (by show j < c * 10; omega)).2
    rw [Nat.zero_add]
    exact h3

theorem rd_of_holds {w : World} {g n c : Nat} {d : Array Ce} (h : HoldsK encCe 10 w g 0 d) (hn : d.size = n) (hc : n ≤ c) : RdG celS w (some ⟨g, 0, none⟩) n c d.toList := by
  refine ⟨by simp [hn], hc, (fun h => by cases h), fun _ => ⟨g, 0, rfl, fun j u hj => ?_⟩⟩
  have hjl : j < d.size * 10 := by
    rcases Nat.lt_or_ge j (d.size * 10) with h | h
    · exact h
    · rw [List.getElem?_eq_none (by rw [celS.fl_len]; show d.toList.length * 10 ≤ j; simpa using h)] at hj; cases hj
  have h1 := (h j (by rw [size_flatK]; exact hjl)).1
  have h2 := flatC_get d (j / 10) (j % 10) (by omega) (Nat.mod_lt _ (by decide))
  rw [show j / 10 * 10 + j % 10 = j by omega] at h2
  have h3 := celS.fl_get d.toList (j / 10) (j % 10) (by simp; omega) (Nat.mod_lt _ (by decide))
  rw [show j / 10 * celS.E + j % 10 = j by show j / 10 * 10 + j % 10 = j; omega] at h3
  rw [h3] at hj
  rw [h1, h2]
  exact hj

theorem cmpLaysC (blk size : Nat) (w : World) : CmpLays Tryd.prog 68 #[] encCe 10 cfC blk 0 size w := fun _ _ _ _ x y =>
  (cmpC_any x y _).mono fun _ _ h => ⟨h.1, h.2.grown⟩

theorem sortS_any (g c : Nat) (d : Array Ce) (w : World) (hH : HoldsK encCe 10 w g 0 d) (hg : g < w.heap.size) (hd : d.size ≤ 12) (hK : Keys d.toList) (hc : d.size ≤ c) :
    Calls Tryd.prog 67 #[.slice (some ⟨g, 0, none⟩) d.size c, .func (.func 68) #[] #[]] w fun e w' => e = .returned (.tuple #[]) ∧ RdG celS w' (some ⟨g, 0, none⟩) d.size c (sortC d.toList) ∧ w.grownBy w' (some g) := by
  refine (AnyQ.slices_SortFunc_small_sorted laysS 10 (fun W => Tryd.isAgg53 W) (fun W => Tryd.sizeOf53 W) encCe (fun _ => rfl) (fun x v hv => celS.one x v hv) cfC 68 #[] swoC g 0 c d w cmpC_enters (cmpLaysC g d.size w) hH hg hd (fun n W h => lenC_any n W h)).mono ?_
  rintro e w' ⟨he, d', n, os, hp, hs, rfl⟩
  have hsz : d'.size = d.size := hp.1
  have hH2 := holdsK_sortWorldK_c encCe 10 w g 0 d d' n os hH hg hsz
  have hR := rd_of_holds hH2 hsz hc
  have hperm : d'.toList.Perm d.toList := by
    have h3 := hp.2.2
    have e1 : d'.extract 0 d.size = d' := by rw [← hsz]; exact Array.extract_size
    have e2 : d.extract 0 d.size = d := Array.extract_size
    rw [e1, e2] at h3
    exact h3
  have hE : d'.toList = sortC d.toList := by
    refine sorted_sortC hK hperm ?_
    rw [List.pairwise_iff_getElem]
    intro i j hi hj hij
    have hi' : i < d'.size := by simpa using hi
    have hj' : j < d'.size := by simpa using hj
    have h5 := hs i j (Nat.zero_le _) hij (by omega)
    rw [getElem!_pos d' i hi', getElem!_pos d' j hj'] at h5
    unfold ltOf at h5
    simpa using h5
  rw [hE] at hR
  refine ⟨he, hR, ?_⟩
  unfold sortWorldK putRowK
  refine ⟨rfl, rfl, rfl, by simp [grow, putRow, mapBlock, ahead], fun k hk hne => ?_⟩
  rw [heap_grow_old _ _ (by simpa using hk)]
  have : g ≠ k := fun e => hne (by rw [e])
  simp [putRow, mapBlock, ahead, Array.getElem?_modify, this]

end

set_option maxRecDepth 20000 in
theorem insz_any (p : Option Addr) (c : Nat) (f : Value) (w : World) : Calls Tryd.prog 82 #[.slice p 0 c, .int .i64 0, .int .i64 0, f] w fun e w' => e = .returned (.tuple #[]) ∧ w' = w := by
  go_enter Tryd.func82, Tryd.ntmps82
  go_wp2_with fail
  go_loopw [8] (fun vi wr => vi = .int .i64 1 ∧ wr = w) (fun _ _ => 0)
  case atStart => exact ⟨by first | rfl | go_num, rfl⟩
  case round =>
    obtain ⟨rfl, rfl⟩ := hrel
    go_wp2_with fail
    exact bodyPost_end (results_none rfl _ _ _) rfl ⟨rfl, rfl⟩

set_option maxRecDepth 20000 in
theorem pdqz_any (p : Option Addr) (c : Nat) (f : Value) (l : Int) (w : World) : Calls Tryd.prog 75 #[.slice p 0 c, .int .i64 0, .int .i64 0, .int .i64 l, f] w fun e w' => e = .returned (.tuple #[]) ∧ w' = w := by
  have h := fun W => insz_any p c f W
  go_enter Tryd.func75, Tryd.ntmps75
  go_wp2_with fail
  go_loopw [1, 2, 3, 10, 11] (fun v1 v2 v3 v10 v11 wr => v1 = .int .i64 0 ∧ v2 = .int .i64 0 ∧ v3 = .int .i64 l ∧ v10 = .bool true ∧ v11 = .bool true ∧ wr = w) (fun _ _ _ _ _ _ => 0)
  case atStart => exact ⟨rfl, rfl, rfl, rfl, rfl, rfl⟩
  case round =>
    obtain ⟨rfl, rfl, rfl, rfl, rfl, rfl⟩ := hrel
    go_wp2_with fail
    refine (h _).mono ?_
    rintro e w1 ⟨rfl, rfl⟩
    go_wp2_with fail
    exact bodyPost_ret (results_none rfl _ _ _) rfl ⟨rfl, rfl⟩

set_option maxRecDepth 20000 in
theorem sortz_any (p : Option Addr) (c : Nat) (f : Value) (w : World) : Calls Tryd.prog 67 #[.slice p 0 c, f] w fun e w' => e = .returned (.tuple #[]) ∧ w' = w := by
  have h1 := fun W => lenC_any 0 W (by decide)
  have h2 := fun l W => pdqz_any p c f l W
  go_enter Tryd.func67, Tryd.ntmps67
  go_wp2_with fail
  refine (h1 _).mono ?_
  rintro e w1 ⟨⟨y, rfl⟩, rfl⟩
  go_wp2_with fail
  refine (h2 y _).mono ?_
  rintro e w2 ⟨rfl, rfl⟩
  clear h1 h2
  go_wp2_with fail
  exact bodyPost_end (results_none rfl _ _ _) rfl ⟨rfl, rfl⟩

/-- Cells that a call laid, sorted. -/
theorem sortC_any {w : World} {B : Nat} {p : Option Addr} {n c : Nat} {L : List Ce} (ho : OwG celS 53 w B p n c L) (hn : n ≤ 12) (hK : Keys L) :
    Calls Tryd.prog 67 #[.slice p n c, .func (.func 68) #[] #[]] w fun e w' => e = .returned (.tuple #[]) ∧ RdG celS w' p n c (sortC L) ∧ Ch (mine p c) w w' := by
  have hl := ho.len
  have hcap := ho.rd.cap
  rcases Nat.eq_zero_or_pos n with h0 | h0
  · subst h0
    have : L = [] := List.length_eq_zero_iff.1 hl
    subst this
    refine (sortz_any p c _ w).mono ?_
    rintro e w' ⟨rfl, rfl⟩
    exact ⟨rfl, ho.rd, Ch.refl _ _⟩
  · rcases ho.ptr with ⟨h1, _⟩ | ⟨g, rfl⟩
    · omega
    · have hg := (ho.lt (k := g) ⟨by omega, _, rfl, rfl⟩).2
      have hs : L.toArray.size = n := by simpa using hl
      have hx := @sortS_any ⟨.z0⟩ g c L.toArray w (@holds_of_own ⟨.z0⟩ _ _ _ _ _ _ _ ho h0) hg (by omega) hK (by omega)
      rw [hs] at hx
      refine hx.mono ?_
      rintro e w' ⟨rfl, h2, h3⟩
      exact ⟨rfl, h2, Ch.grown h3 _ fun k e => by cases e; exact ⟨by omega, _, rfl, rfl⟩⟩

end Go.Proofs.YtnbgdkdnlfomeaaDoor.M
