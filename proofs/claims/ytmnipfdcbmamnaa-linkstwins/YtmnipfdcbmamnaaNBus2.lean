/-
  Own text: the contract of links' Busy: all links with messages, each once, in order.
-/
import Derived.Test.YtmnipfdcbmamnaaNColl
import Derived.Test.YtmnipfdcbmamnaaNSort
import Derived.Test.YtmnipfdcbmamnaaNCmp2
import Derived.Shelf.SlSortCmp.NoneTotal
namespace Go.Proofs.Ytmnipfdcbmamnaa.M
open Go.ChangeShapes Go.WideShapes Go.ChangeAt Go.RowKit Go.ChangeMaps Go.MapKept Go.Maps Go.Shelf

variable {Z : Nat → Prop}

set_option maxHeartbeats 2000000 in
theorem collectL_in (F : Fence) (n : Nat) (h8 : F.fn 52) (hA : F.fn 58) (hro : F.round = none) (hn : 3 ≤ n) (g : Nat) (lb : Array Value) (hFg : F.fn g) (eg : ∀ args w, (callFunc g args).run Try.prog w = .ok (.enter g args) w)
    (S : List (Int × Int) → Prop) (N : Nat) (hN : N ≤ maxLen) (hNb : N * 16 ≤ 140737488355328) (w : World) (hseq : SeqStopsK F (n - 1 - 1) Try.prog g lb (fun x : Int × Int => #[encL x]) KeepsWalks S (fun _ => True) N w) :
    CallsIn F n Try.prog 52 #[.func (.func g) #[] lb] w fun e w' => ∃ (v : Value) (ss : List (Int × Int)), e = .returned v ∧ S ss ∧ w'.ownsRow w.heap.size 33 2 v ss.length (cellsL ss) ∧ (v = .slice none 0 0 ↔ ss = []) ∧ Below w.heap.size w w' := by
  have h1 : 1 ≤ n := by omega
  refine callsIn_of_wp Try.func52 rfl h8 ?_ hro
  simp only [Try.ntmps52, List.size_toArray, List.length_cons, List.length_nil, Nat.reduceAdd, Nat.reduceSub, Array.replicate_succ, Array.replicate_zero, List.push_toArray, List.append_toArray, List.nil_append, List.cons_append]
  gi_wp2_with (gi_at_call 58; refine (appendL_in F (n - 1) hA hro (by omega) g lb hFg eg S N hN hNb _ hseq).mono ?_; rintro e w' ⟨v, ss, rfl, hS, hrow, hnil, hb⟩)
  go_ret
  exact ⟨v, ss, rfl, hS, hrow, hnil, hb⟩

theorem keysK_enters : ∀ args w, (callFunc 54 args).run Try.prog w = .ok (.enter 54 args) w := enters_of Try.func54 (by kernel_rfl) rfl

theorem cmpK_enters : ∀ args w, (callFunc 42 args).run Try.prog w = .ok (.enter 42 args) w := enters_of Try.func42 (by kernel_rfl) rfl

/-- slices.Collect of the keys of a map of links. -/
theorem Collect_any (Bm b nn : Nat) (f : Value → Option Value) (hf : ∀ key v, f key = some v → ∃ s, key = encL s) (w : World) (hm : w.cell? ⟨Bm, 0, none⟩ = some (.map (some b))) (hmap : MapIs Try.prog 33 w b nn f) (hnn : nn ≤ 1000000) :
    Calls Try.prog 52 #[.func (.func 54) #[] #[.pointer (some ⟨Bm, 0, none⟩)]] w fun e w' => ∃ (v : Value) (ss : List (Int × Int)), e = .returned v ∧ KeysL nn f ss ∧ w'.ownsRow w.heap.size 33 2 v ss.length (cellsL ss) ∧ (v = .slice none 0 0 ↔ ss = []) ∧ Below w.heap.size w w' :=
  callsIn_wide.1 (collectL_in Fence.wide 9 trivial trivial rfl (by omega) _ _ trivial keysK_enters (KeysL nn f) nn (by unfold maxLen; omega) (by omega) w (keysL_stops Fence.wide _ trivial rfl (by omega) Bm b nn f hf w (World.block_lt_of_cell? _ _ hm) hm hmap))

/-- A slice of links that can be read. -/
structure RdL (w : World) (p : Option Addr) (n c : Nat) (ss : List (Int × Int)) : Prop where
  len : ss.length = n
  cells : 0 < n → ∃ b o, p = some ⟨b, o, none⟩ ∧ ∀ i, i < n → w.cell? ⟨b, o + i * 2, none⟩ = some (.int .i64 (ss.getD i (0, 0)).1) ∧ w.cell? ⟨b, o + i * 2 + 1, none⟩ = some (.int .i64 (ss.getD i (0, 0)).2)

theorem RdL.below {w w' : World} {p : Option Addr} {n c : Nat} {ss : List (Int × Int)} (h : RdL w p n c ss) (hb : Below w.heap.size w w') : RdL w' p n c ss :=
  ⟨h.len, fun hn => by
    obtain ⟨b, o, e, hc⟩ := h.cells hn
    refine ⟨b, o, e, fun i hi => ?_⟩
    obtain ⟨k0, k1⟩ := hc i hi
    exact ⟨cell_below hb k0, cell_below hb k1⟩⟩

/-- A link as cells. -/
def encC (x : Int × Int) : List Value := [.int .i64 x.1, .int .i64 x.2]

theorem cellsL_get : ∀ (l : List (Int × Int)) (i : Nat), i < l.length → (cellsL l)[i * 2]? = some (.int .i64 (l.getD i (0, 0)).1) ∧ (cellsL l)[i * 2 + 1]? = some (.int .i64 (l.getD i (0, 0)).2)
  | [], i, h => absurd h (Nat.not_lt_zero _)
  | x :: l, 0, _ => ⟨rfl, rfl⟩
  | x :: l, i + 1, h => by
    have := cellsL_get l i (by simpa using h)
    have e : (i + 1) * 2 = i * 2 + 1 + 1 := by omega
    rw [e]
    exact this

theorem flat_get (d : Array (Int × Int)) (i : Nat) (hi : i < d.size) : (Go.Sort.flatK encC 2 d)[i * 2]! = .int .i64 (d.toList.getD i (0, 0)).1 ∧ (Go.Sort.flatK encC 2 d)[i * 2 + 1]! = .int .i64 (d.toList.getD i (0, 0)).2 := by
  have hg : d[i]! = d.toList.getD i (0, 0) := by
    rw [getElem!_pos d i hi, List.getD_eq_getElem?_getD, Array.getElem?_toList, Array.getElem?_eq_getElem hi]
    rfl
  constructor
  · rw [Go.Sort.get_flatK encC 2 d (i * 2) (by omega), show i * 2 / 2 = i by omega, show i * 2 % 2 = 0 by omega, hg]
    rfl
  · rw [Go.Sort.get_flatK encC 2 d (i * 2 + 1) (by omega), show (i * 2 + 1) / 2 = i by omega, show (i * 2 + 1) % 2 = 1 by omega, hg]
    rfl

/-- What a row holds, as the sort asks it. -/
theorem holds_of_row {w : World} {g : Nat} {cur : Array Value} {t : TypeId} {ss : List (Int × Int)} (h : w.heap[g]? = some (.cells cur t (0, 0))) (ht : cur.toList.take (ss.length * 2) = cellsL ss) : Go.Sort.HoldsK encC 2 w g 0 ss.toArray := by
  intro j hj
  have hj2 : j < ss.length * 2 := by simpa using hj
  have hA : At t w g cur := h
  have hcur : w.cell? ⟨g, j, none⟩ = cur[j]? := by
    unfold World.cell?
    rw [h]
    rfl
  have hget : cur[j]? = (cellsL ss)[j]? := by
    rw [← ht, List.getElem?_take_of_lt hj2, Array.getElem?_toList]
  have hfl : (cellsL ss)[j]? = some ((Go.Sort.flatK encC 2 ss.toArray)[j]!) := by
    have h1 := cellsL_get ss (j / 2) (by omega)
    have h2 := flat_get ss.toArray (j / 2) (by simp; omega)
    rcases Nat.mod_two_eq_zero_or_one j with h0 | h0
    · have e : j / 2 * 2 = j := by omega
      rw [e] at h1 h2
      rw [h1.1, h2.1]
    · have e : j / 2 * 2 + 1 = j := by omega
      rw [e] at h1 h2
      rw [h1.2, h2.2]
  refine ⟨?_, ?_⟩
  · rw [Nat.zero_add, hcur, hget, hfl]
    rfl
  · unfold World.frozen?
    rw [h]
    simp

theorem rdl_of_holds {w : World} {g c : Nat} {d : Array (Int × Int)} (h : Go.Sort.HoldsK encC 2 w g 0 d) : RdL w (some ⟨g, 0, none⟩) d.size c d.toList :=
  ⟨by simp, fun _ => ⟨g, 0, rfl, fun i hi => by
    have h0 := (h (i * 2) (by simp; omega)).1
    have h1 := (h (i * 2 + 1) (by simp; omega)).1
    obtain ⟨f0, f1⟩ := flat_get d i hi
    rw [f0] at h0
    rw [f1] at h1
    rw [← Nat.add_assoc] at h1
    exact ⟨h0, h1⟩⟩⟩

/-- The order of links, as a comparison that sorts. -/
def cfL (x y : Int × Int) : Int := cmpL x.1 x.2 y.1 y.2

set_option linter.unusedSimpArgs false in
theorem cfL_neg (x y : Int × Int) : Go.Proofs.ltOf cfL x y = true ↔ x.1 < y.1 ∨ (x.1 = y.1 ∧ x.2 < y.2) := by
  unfold Go.Proofs.ltOf cfL cmpL cmpI
  rw [decide_eq_true_iff]
  by_cases h1 : x.1 < y.1
  · simp [h1]
  · by_cases h2 : y.1 < x.1
    · simp [h1, h2]
      omega
    · have e : x.1 = y.1 := by omega
      simp [h1, h2, e]
      by_cases h3 : x.2 < y.2
      · simp [h3]
      · by_cases h4 : y.2 < x.2
        · simp [h3, h4]
        · simp [h3, h4]

theorem cfL_neg' (x y : Int × Int) : Go.Proofs.ltOf cfL x y = false ↔ ¬ (x.1 < y.1 ∨ (x.1 = y.1 ∧ x.2 < y.2)) := by
  rw [← cfL_neg, Bool.not_eq_true]

theorem swoL : Go.Sort.SWO (Go.Proofs.ltOf cfL) where
  irrefl x := (cfL_neg' x x).2 (by omega)
  trans x y z h k := (cfL_neg x z).2 (by have h1 := (cfL_neg x y).1 h; have h2 := (cfL_neg y z).1 k; omega)
  ntrans x y z h k := (cfL_neg' x z).2 (by have h1 := (cfL_neg' x y).1 h; have h2 := (cfL_neg' y z).1 k; omega)

theorem cmpLaysL (blk size : Nat) (w : World) : Go.Proofs.CmpLays Try.prog 42 #[] encC 2 cfL blk 0 size w := fun _ _ _ _ x y =>
  (busyCmp_any x.1 x.2 y.1 y.2 _).mono fun _ _ h => ⟨h.1, h.2.grown⟩

/-- What the sort leaves. -/
theorem SortL_any (g c : Nat) (d : Array (Int × Int)) (w : World) (hH : Go.Sort.HoldsK encC 2 w g 0 d) (hg : g < w.heap.size) (hd : d.size ≤ 1000000) :
    Calls Try.prog 53 #[.slice (some ⟨g, 0, none⟩) d.size c, .func (.func 42) #[] #[]] w fun e w' => e = .returned (.tuple #[]) ∧ ∃ d' : Array (Int × Int), d'.size = d.size ∧ d'.toList.Perm d.toList ∧ (∀ i j, i < j → j < d.size → Go.Proofs.ltOf cfL d'[j]! d'[i]! = false) ∧ Go.Sort.HoldsK encC 2 w' g 0 d' ∧ w.grownBy w' (some g) := by
  refine (Go.Proofs.AnyQ.slices_SortFunc laysS 2 (fun W => Try.isAgg33 W) (fun W => Try.sizeOf33 W) encC (fun _ => rfl) (fun x v hv => by unfold encC at hv; simp only [List.mem_cons, List.not_mem_nil, or_false] at hv; rcases hv with rfl | rfl <;> rfl) cfL swoL 42 #[] g 0 c d w cmpK_enters (cmpLaysL g d.size w) hH hg (by omega)).mono ?_
  rintro e w' ⟨he, d', n, os, hp, hs, rfl⟩
  have hsz : d'.size = d.size := hp.1
  refine ⟨he, d', hsz, ?_, fun i j hij hj => hs i j (Nat.zero_le _) hij hj, Go.Proofs.holdsK_sortWorldK encC 2 w g 0 n d d' os hg hH hsz, ?_⟩
  · have h3 := hp.2.2
    have e1 : d'.extract 0 d.size = d' := by rw [← hsz]; exact Array.extract_size
    have e2 : d.extract 0 d.size = d := Array.extract_size
    rw [e1, e2] at h3
    exact h3
  · unfold Go.Proofs.sortWorldK Go.Sort.putRowK
    refine ⟨rfl, rfl, rfl, by simp [Sort.grow, Sort.putRow, Sort.mapBlock, Sort.ahead], fun k hk hne => ?_⟩
    rw [Sort.heap_grow_old _ _ (by simpa using hk)]
    have : g ≠ k := fun e => hne (by rw [e])
    simp [Sort.putRow, Sort.mapBlock, Sort.ahead, Array.getElem?_modify, this]

/-- What Busy tells. -/
structure BusyIs (f : Value → Option Value) (ss : List (Int × Int)) : Prop where
  nodup : ss.Nodup
  there : ∀ s ∈ ss, ∃ v, f (encL s) = some v
  all : ∀ s l v, keyOf Try.prog 33 (encL s) = some l → f (encL s) = some v → s ∈ ss
  sorted : ss.Pairwise fun x y => ¬ (y.1 < x.1 ∨ (y.1 = x.1 ∧ y.2 < x.2))

theorem BusyIs.of_sort {f : Value → Option Value} {ss : List (Int × Int)} {d : Array (Int × Int)} {nn : Nat} (hK : KeysL nn f ss) (hp : d.toList.Perm ss) (hs : ∀ i j, i < j → j < ss.length → Go.Proofs.ltOf cfL d[j]! d[i]! = false) : BusyIs f d.toList := by
  refine ⟨hp.nodup_iff.2 hK.1, fun s hm => hK.2.1 s (hp.mem_iff.1 hm), fun s l v h1 h2 => hp.mem_iff.2 (hK.2.2.1 s l v h1 h2), ?_⟩
  have hl : d.size = ss.length := by rw [← hp.length_eq]; simp
  rw [List.pairwise_iff_getElem]
  intro i j hi hj hij
  have hi' : i < d.size := by simpa using hi
  have hj' : j < d.size := by simpa using hj
  have := (cfL_neg' _ _).1 (hs i j hij (by omega))
  rw [getElem!_pos d i hi', getElem!_pos d j hj'] at this
  simpa using this

set_option maxRecDepth 20000 in
set_option maxHeartbeats 2000000 in
theorem Sorted_any (Bm b nn : Nat) (f : Value → Option Value) (hf : ∀ key v, f key = some v → ∃ s, key = encL s) (w : World) (hm : w.cell? ⟨Bm, 0, none⟩ = some (.map (some b))) (hmap : MapIs Try.prog 33 w b nn f) (hnn : nn ≤ 1000000) :
    Calls Try.prog 40 #[.func (.func 54) #[] #[.pointer (some ⟨Bm, 0, none⟩)], .func (.func 42) #[] #[]] w fun e w' => ∃ v, e = .returned v ∧ ∃ p n c ss, v = .slice p n c ∧ BusyIs f ss ∧ RdL w' p n c ss ∧ n ≤ nn ∧ (∀ a, p = some a → w.heap.size ≤ a.block) ∧ Below w.heap.size w w' := by
  have hC := Collect_any Bm b nn f hf w hm hmap hnn
  clear hmap hm hf
  go_enter Try.func40, Try.ntmps40
  go_wp2_with fail
  refine hC.mono ?_
  rintro e w1 ⟨v, ss, rfl, hK, hrow, hnil, hb1⟩
  have HK : Hid (KeysL nn f ss) := hK
  clear hC hK
  rcases hrow.2 with ⟨hv, hz⟩ | ⟨g, cap, cur, hv, hg, hh, h1, h2, h3, h4⟩
  · have hz' : ss.length = 0 := hz
    have hss : ss = [] := List.eq_nil_of_length_eq_zero hz'
    have hS := Go.Proofs.AnyF.slices_SortFunc_none laysS none 0 (.func (.func 42) #[] #[]) w1
    have HB : Hid (BusyIs f []) := by have := HK.out; rw [hss] at this; exact ⟨this.1, this.2.1, this.2.2.1, List.Pairwise.nil⟩
    rw [hv]
    clear hrow hv hz hnil hz' hss HK
    go_wp2_with fail
    refine hS.mono ?_
    rintro e w2 ⟨rfl, hw2⟩
    subst hw2
    clear hS
    go_wp2_with fail
    go_ret
    exact ⟨_, rfl, none, 0, 0, [], rfl, HB.out, ⟨rfl, fun h => absurd h (Nat.lt_irrefl _)⟩, Nat.zero_le _, (fun a h => by cases h), hb1⟩
  · have hH := holds_of_row (ss := ss) hh (by simpa using h4)
    have hgl : g < w1.heap.size := (Array.getElem?_eq_some_iff.1 hh).1
    have hsz : ss.toArray.size ≤ 1000000 := by
      have := HK.out.2.2.2
      simp
      omega
    have hS := SortL_any g cap ss.toArray w1 hH hgl hsz
    have hnn2 := HK.out.2.2.2
    have hse : ss.toArray.size = ss.length := by simp
    rw [hse] at hS
    rw [hv]
    obtain ⟨n, Hn⟩ : ∃ z, Hid (ss.length = z) := ⟨_, rfl⟩
    rw [Hn.out] at hS hnn2 ⊢
    clear hrow hv hnil hH h1 h2 h3 h4 hh hse
    go_wp2_with fail
    refine hS.mono ?_
    rintro e w2 ⟨rfl, d', hd', hp, hsr, hH2, hgr⟩
    have hB2 : Below w.heap.size w w2 := hb1.grown hgr hb1.size (fun k e => by cases e; exact hg)
    have HB : Hid (BusyIs f d'.toList) := BusyIs.of_sort HK.out (by simpa using hp) (fun i j h5 h6 => hsr i j h5 (by rw [Hn.out] at h6; exact h6))
    have hR := rdl_of_holds (c := cap) hH2
    rw [hd'] at hR
    clear hS hp hsr hH2 hgr HK
    go_wp2_with fail
    go_ret
    exact ⟨_, rfl, some ⟨g, 0, none⟩, n, cap, d'.toList, rfl, HB.out, hR, hnn2, (fun a h => by cases h; exact hg), hB2⟩

theorem fL_enc {F : Int → Int → Option Value} : ∀ key v, fL F key = some v → ∃ s, key = encL s := fun key v h => by
  obtain ⟨a, c, e, _⟩ := fL_some h
  exact ⟨(a, c), e⟩

set_option maxRecDepth 20000 in
theorem Keys_any (b : Nat) (w : World) : Calls Try.prog 41 #[.map (some b)] w fun e w' => e = .returned (.func (.func 54) #[] #[.pointer (some ⟨w.heap.size, 0, none⟩)]) ∧ w' = w.alloc (.cells #[.map (some b)] 66) := by
  go_enter Try.func41, Try.ntmps41
  go_wp2_with fail
  go_ret
  exact ⟨rfl, rfl⟩

set_option maxRecDepth 20000 in
set_option maxHeartbeats 2000000 in
theorem Busy_any {w : World} {B g b n side : Nat} {lost : Int} {N : Int → Int → List ByteArray} {R : Int → Int → Value} (h : NB Z w B g b n side lost N R) (hn : n ≤ 1000000) :
    Calls Try.prog 18 #[.pointer (some ⟨g, 0, none⟩)] w fun e w' => ∃ v, e = .returned v ∧ ∃ p m c ss, v = .slice p m c ∧ BusyIs (fL fun x y => nv (N x y) (R x y)) ss ∧ RdL w' p m c ss ∧ m ≤ n ∧ (∀ a, p = some a → w.heap.size ≤ a.block) ∧ Below w.heap.size w w' := by
  have hm := nmade_yes h
  obtain ⟨q0, q1, q2⟩ := h.blk.three
  have hK := Keys_any b w
  have hba := below_alloc w (.cells #[.map (some b)] 66)
  have hA := At.new 66 w #[.map (some b)]
  have hS := Sorted_any w.heap.size b n _ fL_enc _ (hA.cell 0) (h.map.kept (hba.block b h.map.lt)) hn
  have Hba : Hid (Below w.heap.size w (w.alloc (.cells #[.map (some b)] 66))) := hba
  have hsz := hba.size
  clear h hA hba
  go_enter Try.func18, Try.ntmps18
  go_wp2_with fail
  refine hm.mono ?_
  rintro o9 w1 ⟨rfl, hw⟩
  subst hw
  clear hm
  go_wp2_with fail
  refine hK.mono ?_
  rintro o9 w2 ⟨rfl, hw⟩
  rw [hw]
  clear hK q0 q1 q2 hw
  go_wp2_with fail
  refine hS.mono ?_
  rintro o9 w3 ⟨v, rfl, p, m, c, ss, rfl, hB, hR, hmn, hp, hb3⟩
  have HB : Hid (BusyIs (fL fun x y => nv (N x y) (R x y)) ss) := hB
  clear hS hB
  go_wp2_with fail
  go_ret
  exact ⟨_, rfl, p, m, c, ss, rfl, HB.out, hR, hmn, (fun a ha => Nat.le_trans hsz (hp a ha)), Hba.out.trans (hb3.mono hsz)⟩

end Go.Proofs.Ytmnipfdcbmamnaa.M
