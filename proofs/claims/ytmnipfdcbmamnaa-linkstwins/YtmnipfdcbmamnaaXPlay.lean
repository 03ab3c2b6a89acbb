/-
  Own text: the document's Net behind two lists of calls, one behind the other (the closure of the law LinksTwins).
-/
import Derived.Test.YtmnipfdcbmamnaaXTwin
namespace Go.Proofs.Ytmnipfdcbmamnaa.M
open Go.ChangeShapes Go.WideShapes Go.ChangeAt Go.RowKit Go.ChangeMaps Go.MapKept Go.Maps

theorem RdN.below {w w' : World} {p : Option Addr} {n c : Nat} {ls : List Nd} (h : RdN w p n c ls) (hb : Below w.heap.size w w') : RdN w' p n c ls := by
  refine ⟨h.len, fun hn => ?_, fun j hj => ?_⟩
  · obtain ⟨b, o, e, hc⟩ := h.cells hn
    refine ⟨b, o, e, fun i hi => ?_⟩
    obtain ⟨k0, k1, k2, k3, k4, k5⟩ := hc i hi
    exact ⟨cell_below hb k0, cell_below hb k1, cell_below hb k2, cell_below hb k3, cell_below hb k4, cell_below hb k5⟩
  · obtain ⟨r1, r2⟩ := h.rd j hj
    exact ⟨r1.below hb, r2⟩

set_option maxRecDepth 20000 in
theorem nclone_any (p : Option Addr) (n c : Nat) (ls : List Nd) (w : World) (hr : RdN w p n c ls) (hz : p = none → c = 0 ∧ n = 0) (hn : n ≤ 1000000) :
    Calls Try.prog 21 #[.slice p n c] w fun e w' => (∃ v, e = .returned v ∧ OwN w' w.heap.size v ls) ∧ Below w.heap.size w w' := by
  have q22 : ∀ (w : World) (a : Option Addr) (n c n' c' : Nat), (binOp .eql 22 (.slice a n c) (.slice none n' c')).run Try.prog w = .ok (.bool a.isNone) w := fun w a n c n' c' => Lib.run_eql_slice_nil w _ _ a n c n' c' Try.underlying22
  cases p with
  | none =>
    obtain ⟨rfl, rfl⟩ := hz rfl
    obtain rfl : ls = [] := List.length_eq_zero_iff.1 hr.len
    go_enter Try.func21, Try.ntmps21
    go_wp2_with fail
    go_ret
    exact ⟨⟨_, rfl, OwN.nil _ _⟩, Below.refl _ _⟩
  | some ad =>
    have hba := below_alloc w (.cells #[] 37)
    have hra := hr.below hba
    have ho : OwN (w.alloc (.cells #[] 37)) w.heap.size (.slice (some ⟨w.heap.size, 0, none⟩) 0 0) [] := ⟨rfl, Or.inr ⟨w.heap.size, 0, #[], rfl, Nat.le_refl _, heap_alloc_new w _, Nat.le_refl _, Nat.zero_le _, rfl, rfl⟩⟩
    have hB := hba.size
    clear hr
    go_enter Try.func21, Try.ntmps21
    go_wp2_with (at_builtin; refine wpList_appN _ rfl (.tmp 5) (.tmp 6) rfl w.heap.size _ [] rfl ho (some ad) n c ls rfl hra (fun e => by cases e) (Nat.zero_le _) hn hB ?_; rintro v' w' hO hb)
    go_ret
    exact ⟨⟨_, rfl, by rw [List.nil_append] at hO; exact hO⟩, hba.trans hb⟩

/-- Where the calls of a list lie, from block B on. -/
def AtN (B : Nat) (w : World) (p : Option Addr) (n : Nat) (ls : List Nd) : Prop := 0 < n → ∃ b o, p = some ⟨b, o, none⟩ ∧ B ≤ b ∧ ∀ i, i < n → (ls.getD i .z0).at w b (o + i * 6)

theorem AtN.below {B : Nat} {w w' : World} {p : Option Addr} {n : Nat} {ls : List Nd} (h : AtN B w p n ls) (hb : Below w.heap.size w w') : AtN B w' p n ls := fun hn => by
  obtain ⟨b, o, e, hB, hc⟩ := h hn
  refine ⟨b, o, e, hB, fun i hi => ?_⟩
  obtain ⟨k0, k1, k2, k3, k4, k5⟩ := hc i hi
  exact ⟨cell_below hb k0, cell_below hb k1, cell_below hb k2, cell_below hb k3, cell_below hb k4, cell_below hb k5⟩

theorem AtN.ex {B g : Nat} {w w' : World} {p : Option Addr} {n : Nat} {ls : List Nd} (h : AtN B w p n ls) (he : Ex g w w') (hg : g < B) : AtN B w' p n ls := fun hn => by
  obtain ⟨b, o, e, hB, hc⟩ := h hn
  refine ⟨b, o, e, hB, fun i hi => ?_⟩
  obtain ⟨k0, k1, k2, k3, k4, k5⟩ := hc i hi
  have hlt := World.block_lt_of_cell? _ _ k0
  have heq : ∀ j, w'.cell? ⟨b, j, none⟩ = w.cell? ⟨b, j, none⟩ := fun j => World.cell?_of_block (a := ⟨b, j, none⟩) (he.block b hlt (by omega))
  exact ⟨(heq _).trans k0, (heq _).trans k1, (heq _).trans k2, (heq _).trans k3, (heq _).trans k4, (heq _).trans k5⟩

theorem OwN.at {w : World} {B : Nat} {v : Value} {ls : List Nd} (h : OwN w B v ls) : ∃ q c, v = .slice q ls.length c ∧ AtN B w q ls.length ls := by
  have h' : w.ownsRow B 37 6 v ls.length (cellsN ls) := h
  rcases h.2 with ⟨rfl, h2⟩ | ⟨g, cap, cur, rfl, hg, hh, hc, _, hs, _⟩
  · exact ⟨none, 0, by rw [h2], fun h => by omega⟩
  · refine ⟨_, _, rfl, fun _ => ⟨g, 0, rfl, hg, fun i hi => ?_⟩⟩
    have hcell : ∀ r, r < 6 → ∀ u, (ndC (ls.getD i .z0))[r]? = some u → w.cell? ⟨g, i * 6 + r, none⟩ = some u := fun r hr u hu => by
      have h4 := World.ownsRow.cells h' (g := g) rfl (i * 6 + r) u (by rw [cellsN_get ls i r hi hr]; exact hu)
      rw [Addr.add_lit, Nat.zero_add] at h4
      exact h4
    rw [Nat.zero_add]
    exact ⟨hcell 0 (by decide) _ rfl, hcell 1 (by decide) _ rfl, hcell 2 (by decide) _ rfl, hcell 3 (by decide) _ rfl, hcell 4 (by decide) _ rfl, hcell 5 (by decide) _ rfl⟩

theorem getD_app {ls ms : List Nd} {P : Nd → Prop} (h1 : ∀ j, j < ls.length → P (ls.getD j .z0)) (h2 : ∀ j, j < ms.length → P (ms.getD j .z0)) : ∀ j, j < (ls ++ ms).length → P ((ls ++ ms).getD j .z0) := fun j hj => by
  rcases Nat.lt_or_ge j ls.length with h | h
  · rw [List.getD_eq_getElem?_getD, List.getElem?_append_left h, ← List.getD_eq_getElem?_getD]
    exact h1 j h
  · rw [List.getD_eq_getElem?_getD, List.getElem?_append_right h, ← List.getD_eq_getElem?_getD]
    rw [List.length_append] at hj
    exact h2 _ (by omega)

theorem xc_litT : (xc (.slice none 0 0) (List.replicate 64 false) 0) = Try.zeroCells31 := rfl

/-- A new Net in plain words. -/
def pn0 : PN := ⟨fun _ _ => [], 0, 0⟩

set_option linter.unusedSimpArgs false in
set_option maxRecDepth 20000 in
set_option maxHeartbeats 4000000 in
theorem play_any (w : World) {p : Option Addr} {n c : Nat} {ls : List Nd} (hr : RdN w p n c ls) (hz : p = none → c = 0 ∧ n = 0) {q : Option Addr} {m d : Nat} {ms : List Nd} (hr2 : RdN w q m d ms) (hz2 : q = none → d = 0 ∧ m = 0) (hn : n ≤ 150) (hm : m ≤ 150) :
    Calls Try.prog 20 #[.slice p n c, .slice q m d] w fun o w' => ∃ v, o = .returned v ∧ ∃ gx, v = .pointer (some ⟨gx, 0, none⟩) ∧ XS w' gx (n + m) (plN pn0 (ls ++ ms)) ∧ Below w.heap.size w w' := by
  have hbX := below_alloc w (.cells (xc (.slice none 0 0) (List.replicate 64 false) 0) 31)
  have hx1 := XS.new w
  have hl1 : w.heap.size < (w.alloc (.cells (xc (.slice none 0 0) (List.replicate 64 false) 0) 31)).heap.size := hx1.lt
  rw [xc_litT] at hbX hx1 hl1
  have hC := nclone_any p n c ls (w.alloc (.cells Try.zeroCells31 31)) (hr.below hbX) hz (by omega)
  go_enter Try.func20, Try.ntmps20
  go_wp2_with fail
  refine hC.mono ?_
  rintro o W2 ⟨⟨v1, rfl, hO1⟩, hb2⟩
  have hr2' := hr2.below (hbX.trans (hb2.mono hbX.size))
  have hbW2 := hbX.trans (hb2.mono hbX.size)
  have hx2 := hx1.below hb2
  have hBs := hb2.size
  clear hC
  generalize (w.alloc (.cells Try.zeroCells31 31)) = W1 at *
  generalize hgx : w.heap.size = gx at *
  have hlA : ls.length ≤ 1000000 := by rw [hr.len]; omega
  obtain ⟨L, HLr⟩ : ∃ z, Hid (ls ++ ms = z) := ⟨_, rfl⟩
  go_wp2_with (at_builtin; refine wpList_appN _ rfl (.tmp 11) (.tmp 12) rfl W1.heap.size v1 ls rfl hO1 q m d ms rfl hr2' hz2 hlA (by omega) hBs ?_; rintro v2 W3 hO3 hb3; rw [HLr.out] at hO3; obtain ⟨q2, c2, rfl, hA3⟩ := OwN.at hO3)
  have hx3 : XS W3 gx 0 pn0 := by
    obtain ⟨p', k0, c', its, hX, hk, hI⟩ := hx2.so
    have : k0 = 0 := by omega
    subst this
    refine ⟨p', 0, c', its, ⟨(hb3.block gx hl1).trans hX.blk, hX.len, ⟨hX.rd.len, hX.rd.cap, hX.rd.nil, fun h => absurd h (Nat.lt_irrefl _), fun _ _ h => absurd h (Nat.lt_irrefl _)⟩, hX.off⟩, Nat.le_refl _, hI⟩
  have hbw3 : Below gx w W3 := hbW2.trans (hb3.mono (by omega))
  have hLl : (ls ++ ms).length = n + m := by rw [List.length_append, hr.len, hr2.len]
  have hrdL : Hid (∀ j, j < (ls ++ ms).length → ((ls ++ ms).getD j .z0).rd w) := getD_app (fun j hj => hr.rd j (by rw [← hr.len]; exact hj)) (fun j hj => hr2.rd j (by rw [← hr2.len]; exact hj))
  rw [HLr.out] at hLl hrdL
  clear hO3 hO1 hb2 hb3 hbX hx1 hx2 hr2' hbW2 hBs hr hr2
  have hN : L.length ≤ 300 := by omega
  have HLl : Hid (L.length = n + m) := hLl
  clear hLl
  go_loopw [15] (fun ix wr => ∃ j : Nat, j ≤ L.length ∧ ix = .int .i64 j ∧ XS wr gx j (plN pn0 (L.take j)) ∧ AtN W1.heap.size wr q2 L.length L ∧ Below gx w wr) (fun ix _ => L.length - (intOf ix).toNat)
  case atStart => exact ⟨0, Nat.zero_le _, rfl, hx3, hA3, hbw3⟩
  case round =>
    clear hx3 hA3 hbw3
    obtain ⟨j, hj, rfl, hxs, hat, hbw⟩ := hrel
    by_cases hjn : j < L.length
    · have hji : (j : Int) < (L.length : Int) := by omega
      obtain ⟨gb, go, rfl, hBb, hcl⟩ := hat (by omega)
      have hcj := hcl j hjn
      have hrd := hrdL.out j hjn
      have hst := plN_take hjn pn0
      have hlks : Lks (plN pn0 (L.take j)) := plN_lks _ Lks.new
      have hlst := plN_lost (L.take j) pn0
      rw [List.length_take, Nat.min_eq_left hj] at hlst
      have hlo : 0 ≤ (plN pn0 (L.take j)).lost ∧ (plN pn0 (L.take j)).lost ≤ 1000 := by
        have h0 : pn0.lost = 0 := rfl
        omega
      generalize plN pn0 (L.take j) = m0 at *
      obtain ⟨m1, Hm1⟩ : ∃ z, Hid (plN pn0 (L.take (j + 1)) = z) := ⟨_, rfl⟩
      rw [Hm1.out] at hst
      clear hcl hlst
      generalize L.getD j .z0 = z at *
      obtain ⟨op, i, x, y, bq, bl, bc, s, xb⟩ := z
      obtain ⟨c0, c1, c2', c3, c4, c5⟩ := hcj
      dsimp only at c0 c1 c2' c3 c4 c5
      have hba := below_alloc wr (.cells #[.int .i64 op, .int .i64 i, .int .i64 x, .int .i64 y, .slice bq bl bc, .int .u64 s] 37)
      have hG := At.new 37 wr #[.int .i64 op, .int .i64 i, .int .i64 x, .int .i64 y, .slice bq bl bc, .int .u64 s]
      have hwsz : gx ≤ wr.heap.size := by have := hbw.size; omega
      have hbw1 := hbw.trans (hba.mono hwsz)
      have hxs1 := hxs.below hba
      have hal := also_any hxs1 (by omega) hlks hlo op i x y bq bl bc s xb ⟨hrd.1.below (by rw [hgx]; exact hbw1), hrd.2⟩
      rw [← hst] at hal
      obtain ⟨d0, d1, d2, d3, d4, d5⟩ := hG.six
      go_wp2_with fail
      refine hal.mono ?_
      rintro o W5 ⟨rfl, hxs5, hE⟩
      have hat5 := (hat.below hba).ex hE hl1
      have hbw5 : Below gx w W5 := hbw1.trans (hE.below (Nat.le_refl _) hxs1.lt)
      clear hal hE hxs1 hxs hbw1 hba hG d0 d1 d2 d3 d4 d5 c0 c1 c2' c3 c4 c5 hbw hat hst
      go_wp2_with fail
      go_roundw
      case rel => exact ⟨j + 1, by omega, by go_num, by rw [Hm1.out]; exact hxs5, hat5, hbw5⟩
      case measure => simp [intOf]; omega
    · have hji : ¬ (j : Int) < (L.length : Int) := by omega
      have e : L.take j = L := List.take_of_length_le (by omega)
      rw [e, ← HLr.out] at hxs
      have hjl : j = n + m := by have := HLl.out; omega
      rw [hjl] at hxs
      go_wp2_with fail
      go_ret
      exact ⟨_, rfl, gx, rfl, hxs, hbw⟩

end Go.Proofs.Ytmnipfdcbmamnaa.M
